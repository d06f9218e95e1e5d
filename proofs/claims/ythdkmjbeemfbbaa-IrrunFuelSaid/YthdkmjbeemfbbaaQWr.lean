/-
  A walk over a region that draws its order and writes: what may be taken first, whatever its kind. Rows of a call's own, of elements of any number of cells: grown, cut, written. Rows of a call's own: several elements appended.
-/
import Derived.Test.YthdkmjbeemfbbaaQWp
import Derived.Laws.CopyRow
namespace Go.Proofs.Ythdkmjbeemfbbaa
open Go.RowKit Classical in
set_option linter.unusedVariables false
set_option linter.unusedSimpArgs false
theorem RH.not {P : Program} {S : World → Prop} {N : Nat} {s : List (Nat × Value)} {o : Oper} {t : TypeId} {x : Operand} {b : Bool} (hop : o.op = .unOp .not t x) (hu : ev s x = some (.bool b)) : ∀ a, Kn N s a → ∀ w, S w → (execOp a.eval o).run P w = .ok (.value (.bool (!b))) w := fun a k w _ => by
  unfold execOp
  rw [hop]
  simp only [k.eval hu]
  simp [go_sem]
theorem RH.bin {P : Program} {S : World → Prop} {N : Nat} {s : List (Nat × Value)} {o : Oper} {b : BinOp} {t r : TypeId} {x y : Operand} {u u' v : Value} (hop : o.op = .binOp b t x y r) (hu : ev s x = some u) (hu' : ev s y = some u') (hr : ∀ w, (do eqGuard b t x y u u'; binOp b t u u' : Sem Value).run P w = .ok v w) : ∀ a, Kn N s a → ∀ w, S w → (execOp a.eval o).run P w = .ok (.value v) w := fun a k w _ => by
  unfold execOp
  rw [hop]
  have := hr w
  simp only [k.eval hu, k.eval hu', Sem.run_bind] at this ⊢
  rw [this]
  simp [go_sem]
theorem RH.len {P : Program} {S : World → Prop} {N : Nat} {s : List (Nat × Value)} {o : Oper} {x : Operand} {t : TypeId} {g : Option Addr} {n c : Nat} (hop : o.op = .call ⟨.builtin .len, #[x], #[t]⟩) (hu : ev s x = some (.slice g n c)) (hr : ∀ w, (Builtin.len_ #[t] o.type #[.slice g n c]).run P w = .ok (.int .i64 n) w) : ∀ a, Kn N s a → ∀ w, S w → (execOp a.eval o).run P w = .ok (.value (.int .i64 n)) w := fun a k w _ => by
  have h1 := k.eval hu
  unfold execOp
  rw [hop]
  generalize a.eval = e at *
  simp [go_sem, h1, hr]
theorem RH.cv {P : Program} {S : World → Prop} {N : Nat} {s : List (Nat × Value)} {o : Oper} {t t2 : TypeId} {x : Operand} {u v : Value} (hop : o.op = .convert t t2 x) (h0 : ev s x = some u) (hr : ∀ w, S w → (convert t t2 u).run P w = .ok v w) : ∀ a, Kn N s a → ∀ w, S w → (execOp a.eval o).run P w = .ok (.value v) w := fun a k w hw => by
  have k0 := k.eval h0
  unfold execOp
  rw [hop]
  simp only [k0, Sem.run_bind, hr w hw, Result.andThen_ok, Sem.run_pure]
theorem RH.fd {P : Program} {S : World → Prop} {N : Nat} {s : List (Nat × Value)} {o : Oper} {t : TypeId} {j : Nat} {x : Operand} {u v : Value} (hop : o.op = .field t x j) (h0 : ev s x = some u) (hr : ∀ w, S w → (Instr.field t u j).run P w = .ok v w) : ∀ a, Kn N s a → ∀ w, S w → (execOp a.eval o).run P w = .ok (.value v) w := fun a k w hw => by
  have k0 := k.eval h0
  unfold execOp
  rw [hop]
  simp only [k0, Sem.run_bind, hr w hw, Result.andThen_ok, Sem.run_pure]
theorem RH.sl1 {P : Program} {S : World → Prop} {N : Nat} {s : List (Nat × Value)} {o : Oper} {t : TypeId} {x y : Operand} {u u2 v : Value} (hop : o.op = .slice t x (some y) none none) (h0 : ev s x = some u) (h1 : ev s y = some u2) (hr : ∀ w, S w → (Instr.sliceAt t u (some u2) none none).run P w = .ok v w) : ∀ a, Kn N s a → ∀ w, S w → (execOp a.eval o).run P w = .ok (.value v) w := fun a k w hw => by
  have k0 := k.eval h0
  have k1 := k.eval h1
  unfold execOp
  rw [hop]
  simp only [Option.map_some, Option.map_none, k0, k1, Sem.run_bind, hr w hw, Result.andThen_ok, Sem.run_pure]
theorem RH.sl2 {P : Program} {S : World → Prop} {N : Nat} {s : List (Nat × Value)} {o : Oper} {t : TypeId} {x y : Operand} {u u2 v : Value} (hop : o.op = .slice t x none (some y) none) (h0 : ev s x = some u) (h1 : ev s y = some u2) (hr : ∀ w, S w → (Instr.sliceAt t u none (some u2) none).run P w = .ok v w) : ∀ a, Kn N s a → ∀ w, S w → (execOp a.eval o).run P w = .ok (.value v) w := fun a k w hw => by
  have k0 := k.eval h0
  have k1 := k.eval h1
  unfold execOp
  rw [hop]
  simp only [Option.map_some, Option.map_none, k0, k1, Sem.run_bind, hr w hw, Result.andThen_ok, Sem.run_pure]
theorem RH.sl12 {P : Program} {S : World → Prop} {N : Nat} {s : List (Nat × Value)} {o : Oper} {t : TypeId} {x y z : Operand} {u u2 u3 v : Value} (hop : o.op = .slice t x (some y) (some z) none) (h0 : ev s x = some u) (h1 : ev s y = some u2) (h2 : ev s z = some u3) (hr : ∀ w, S w → (Instr.sliceAt t u (some u2) (some u3) none).run P w = .ok v w) : ∀ a, Kn N s a → ∀ w, S w → (execOp a.eval o).run P w = .ok (.value v) w := fun a k w hw => by
  have k0 := k.eval h0
  have k1 := k.eval h1
  have k2 := k.eval h2
  unfold execOp
  rw [hop]
  simp only [Option.map_some, Option.map_none, k0, k1, k2, Sem.run_bind, hr w hw, Result.andThen_ok, Sem.run_pure]
theorem RH.bld {P : Program} {S : World → Prop} {N : Nat} {s : List (Nat × Value)} {o : Oper} {t : TypeId} {ps : Array (Nat × Operand)} {vs : Array (Nat × Value)} {v : Value} (hop : o.op = .build t ps) (hu : ps.toList.map (fun p => (p.1, ev s p.2)) = vs.toList.map (fun p => (p.1, some p.2))) (hr : ∀ w, S w → (Instr.build t vs).run P w = .ok v w) : ∀ a, Kn N s a → ∀ w, S w → (execOp a.eval o).run P w = .ok (.value v) w := fun a k w hw => by
  have hm : ps.map (fun p => (p.1, a.eval p.2)) = vs := O.parts k hu
  unfold execOp
  rw [hop]
  simp only [hm, Sem.run_bind, hr w hw, Result.andThen_ok, Sem.run_pure]
theorem RH.pick {P : Program} {S : World → Prop} {N : Nat} {s : List (Nat × Value)} {o : Oper} {x y z : Operand} {b : Bool} {v : Value} (hop : o.op = .pick x y z) (hb : ev s x = some (.bool b)) (hv : ev s (if b then y else z) = some v) : ∀ a, Kn N s a → ∀ w, S w → (execOp a.eval o).run P w = .ok (.value v) w := fun a k w _ => by
  have h1 := k.eval hb
  have h2 := k.eval hv
  unfold execOp
  rw [hop]
  generalize a.eval = e at *
  cases b
  · simp only [Bool.false_eq_true, if_false] at h2
    simp [go_sem, h1, h2]
  · simp only [if_true] at h2
    simp [go_sem, h1, h2]
section
variable {P : Program} {ops : Array Oper} {S : World → Prop} {N : Nat} {Q : Exit → Act → World → Prop} {s : List (Nat × Value)} {l : List Oper} {o o' o'' : Oper} {d i i' i'' fuel : Nat} {listed : Array Bool} {w : World}
theorem WH.skip (i : Nat) (hi : ops[i]? = some o) (hsel : Region.noSelect ops = true) (hf : Region.free .any ops listed i = true) (hr : (Region.ready .any ops listed).contains i = true) (hQ : ∀ c a (d : Nat) v w, Q (.panic c) (a.put (some d) v) w → Q (.panic c) a w) (hd : o.dst = some d) (hN : Nat.blt d N = true) (hg : gd ops s o = some false) (hS : S w)
    (h : WH P ops S N Q fuel (listed.setIfInBounds i true) ((d, undef) :: s) w) : WH P ops S N Q (fuel + 1) listed s w := fun a k =>
  wpAnyH_take hi hsel hf hr (fun c a2 w h => hQ c a2 d _ w (by rw [hd] at h; exact h)) (.inr ⟨gd_wanted k hg, rfl⟩) hS (by rw [hd]; exact h _ (k.put hN _))
theorem WH.split {b : Bool} (ht : b = true → WH P ops S N Q fuel listed ((d, .bool true) :: s) w) (hf : b = false → WH P ops S N Q fuel listed ((d, .bool false) :: s) w) : WH P ops S N Q fuel listed ((d, .bool b) :: s) w := by
  cases b
  · exact hf rfl
  · exact ht rfl
theorem WH.three (i i' i'' : Nat) (hr : Region.ready .any ops listed = [i, i', i'']) (hi : ops[i]? = some o) (hi' : ops[i']? = some o') (hi'' : ops[i'']? = some o'') (h : WL P ops N (Go1 P ops S Q fuel (listed.setIfInBounds i true)) s [o] w) (h' : WL P ops N (Go1 P ops S Q fuel (listed.setIfInBounds i' true)) s [o'] w) (h'' : WL P ops N (Go1 P ops S Q fuel (listed.setIfInBounds i'' true)) s [o''] w) : WH P ops S N Q (fuel + 1) listed s w := fun a k =>
  wpAnyH_all hr (by simp) (fun j hj => by
    have : j = i ∨ j = i' ∨ j = i'' := by simpa using hj
    rcases this with e | e | e
    · subst e; exact wpOp_of_list hi (h a k)
    · subst e; exact wpOp_of_list hi' (h' a k)
    · subst e; exact wpOp_of_list hi'' (h'' a k))
end
theorem Bx.store {P : Program} {w : World} {g : Nat} {z : Array Value} {t : TypeId} (h : Bx w g z t) (ty : TypeId) (cells : Array Value) (hi : (P.info? ty).map (·.size) = some cells.size) (ho : z.size = cells.size) (h1 : cells.all (·.oneCell') = true) : ∃ w', (Instr.storeAt ty (.pointer (some ⟨g, 0, none⟩)) (.agg cells)).run P w = .ok () w' ∧ (Fr (fun q => q = g) w w' ∧ Bx w' g cells t) := by
  refine ⟨w.setRow g cells, ?_, ⟨rfl, rfl, ?_, fun k hk hn => ?_⟩, setRow_heap w g z cells t (0, 0) h⟩
  · simp only [Instr.storeAt, Instr.sureAddr, Sem.run_bind, Sem.run_pure, Result.andThen_ok, run_storeVar_row w g t ty z cells h hi ho h1]
  · simp [World.setRow]
  · exact setRow_other w g k cells hn
theorem O.mkR {P : Program} {ops : Array Oper} {N : Nat} {Q : Exit → Act → World → Prop} {s : List (Nat × Value)} {l : List Oper} {o : Oper} {d : Nat} {w : World} {t ty : TypeId} {x y : Operand} {u u2 v : Value} {z : Array Value} (hop : o.op = .makeSlice t x y) (hd : o.dst = some d) (hN : Nat.blt d N = true) (hg : gd ops s o = some true) (h0 : ev s x = some u) (h1 : ev s y = some u2) (hr : (Instr.makeSlice t u u2).run P w = .ok v (w.alloc (.cells z ty))) (h : ∀ w', Fr (fun _ => False) w w' ∧ Bx w' w.heap.size z ty → WL P ops N Q ((d, v) :: s) l w') : WL P ops N Q s (o :: l) w := O.mk hop hd hN hg h0 h1 hr (h _ ⟨fr_al (Fr.refl _ _) _, Bx.new _ _ _⟩)
theorem least_of {p : Nat → Prop} : ∀ n, p n → ∃ d, p d ∧ ∀ k, k < d → ¬ p k := by
  intro n
  induction n using Nat.strongRecOn with
  | ind n ih =>
    intro h
    by_cases q : ∃ k, k < n ∧ p k
    · obtain ⟨k, hk, hp⟩ := q
      exact ih k hk hp
    · exact ⟨n, h, fun k hk hp => q ⟨k, hk, hp⟩⟩
noncomputable def leastD (p : Nat → Prop) : Nat := if h : ∃ d, p d ∧ ∀ k, k < d → ¬ p k then Classical.choose h else 0
theorem leastD_spec {p : Nat → Prop} {n : Nat} (h : p n) : p (leastD p) ∧ ∀ k, k < leastD p → ¬ p k := by
  unfold leastD
  rw [dif_pos (least_of n h)]
  exact Classical.choose_spec (least_of n h)
theorem leastD_le {p : Nat → Prop} {n : Nat} (h : p n) : leastD p ≤ n := by
  have := (leastD_spec h).2 n
  exact Nat.le_of_not_lt fun q => this q h
/-- A loop whose rounds are counted by the proof alone. -/
theorem O.loopX {P : Program} {N : Nat} {Q : Exit → Act → World → Prop} {s : List (Nat × Value)} {x : Code} {w : World} {n : Nat} (I : Nat → Act → World → Prop) (j0 : Nat) (hj0 : j0 ≤ n) (h0 : ∀ a, Kn N s a → I j0 a w)
    (round : ∀ j a w, j ≤ n → I j a w → x.wp P (Exit.then (fun a w => ∃ j', j < j' ∧ j' ≤ n ∧ I j' a w) Q) a w) : TW P N Q s (.loop x) w := fun a k => by
  refine wp_loop (fun a w => ∃ j, j ≤ n ∧ I j a w) (fun a w => leastD fun d => d ≤ n ∧ I (n - d) a w) ⟨j0, hj0, h0 a k⟩ ?_
  rintro a w ⟨j, hj, hI⟩
  have hp : (fun d => d ≤ n ∧ I (n - d) a w) (n - j) := ⟨by omega, by rw [Nat.sub_sub_self hj]; exact hI⟩
  obtain ⟨hm, _⟩ := leastD_spec (p := fun d => d ≤ n ∧ I (n - d) a w) hp
  generalize hd : leastD (fun d => d ≤ n ∧ I (n - d) a w) = d at *
  refine wp_mono (round (n - d) a w (by omega) hm.2) ?_
  intro e a' w' q
  cases e with
  | normal =>
    obtain ⟨j', h1, h2, h3⟩ := q
    refine ⟨⟨j', h2, h3⟩, ?_⟩
    have hp' : (fun d => d ≤ n ∧ I (n - d) a' w') (n - j') := ⟨by omega, by rw [Nat.sub_sub_self h2]; exact h3⟩
    have := leastD_le (p := fun d => d ≤ n ∧ I (n - d) a' w') hp'
    have := hm.1
    show leastD (fun d => d ≤ n ∧ I (n - d) a' w') < d
    omega
  | exit id => exact q
  | goto l => exact q
  | ret => exact q
  | panic ch => exact q
  | outgrown => exact q
theorem O.bslR {P : Program} {ops : Array Oper} {N : Nat} {Q : Exit → Act → World → Prop} {s : List (Nat × Value)} {l : List Oper} {o : Oper} {d : Nat} {w : World} {t ty : TypeId} {m : Nat} {ps : Array (Nat × Operand)} {vs : Array (Nat × Value)} {v : Value} {z : Array Value} (hop : o.op = .buildSlice t m ps) (hd : o.dst = some d) (hN : Nat.blt d N = true) (hg : gd ops s o = some true) (hu : ps.toList.map (fun p => (p.1, ev s p.2)) = vs.toList.map (fun p => (p.1, some p.2))) (hr : (Instr.buildSlice t m vs).run P w = .ok v (w.alloc (.cells z ty))) (h : ∀ w', Fr (fun _ => False) w w' ∧ Bx w' w.heap.size z ty → WL P ops N Q ((d, v) :: s) l w') : WL P ops N Q s (o :: l) w := O.bsl hop hd hN hg hu hr (h _ ⟨fr_al (Fr.refl _ _) _, Bx.new _ _ _⟩)
theorem info_row {o : Option TypeInfo} {z : Option Value} {s b : Nat} (h : o.map (fun i => (i.zero, i.size, i.bytes)) = some (z, s, b)) : ∃ i, o = some i ∧ i.zero = z ∧ i.size = s ∧ i.bytes = b := by
  cases o with
  | none => simp at h
  | some i => simp at h; exact ⟨i, rfl, h.1, h.2.1, h.2.2⟩
theorem run_clear {P : Program} {w : World} (t ty : TypeId) (e : TypeId) (i : TypeInfo) (z : Value) (ht : P.underlying t = some (.slice e)) (hi : P.info? e = some i) (hz : i.zero = some z) (hzs : z.cells = #[z]) (hz1 : z.oneCell' = true)
    (g b n c : Nat) (cur : Array Value) (hg : w.heap[g]? = some (.cells cur e (0, 0))) (hfit : b + n ≤ cur.size) :
    ∃ w' cur', (Builtin.clear_ #[t] ty #[.slice (some ⟨g, b, none⟩) n c]).run P w = .ok (.tuple #[]) w' ∧ w'.heap[g]? = some (.cells cur' e (0, 0)) ∧ cur'.size = cur.size ∧ (∀ j, j < b → cur'[j]? = cur[j]?) ∧ Fr (fun k => k = g) w w' := by
  by_cases hn : n = 0
  · subst hn
    exact ⟨w, cur, by simp [Builtin.clear_, run_underlying ht], hg, rfl, fun _ _ => rfl, Fr.refl _ _⟩
  · have hsz : (Builtin.zeroCells #[z] n).toList.length = n := by
      rw [Array.length_toList, size_zeroCells]; simp
    have h1 : ∀ v ∈ (Builtin.zeroCells #[z] n).toList, v.oneCell' = true := by
      intro v hv
      simp [Builtin.zeroCells] at hv
      obtain ⟨j, hj, rfl⟩ := hv
      simpa [Nat.mod_one] using hz1
    have hst := run_storeCells_at P g b e (Builtin.zeroCells #[z] n).toList 0 cur w hg (by rw [hsz]; simpa using hfit) h1
    have hr : (Builtin.clear_ #[t] ty #[.slice (some ⟨g, b, none⟩) n c]).run P w = .ok (.tuple #[]) (w.setRow g (cur.toList.take (b + 0) ++ (Builtin.zeroCells #[z] n).toList ++ cur.toList.drop (b + 0 + (Builtin.zeroCells #[z] n).toList.length)).toArray) := by
      cases n with
      | zero => exact absurd rfl hn
      | succ n => simp [Builtin.clear_, run_underlying ht, zeroValue, typeInfo, hi, hz, hzs] ; simp at hst; rw [hst]; rfl
    refine ⟨_, _, hr, setRow_heap w g cur _ e _ hg, ?_, ?_, ⟨rfl, rfl, by simp, fun k hk hn => setRow_other w g k _ hn⟩⟩
    · rw [List.size_toArray, List.length_append, List.length_append, hsz, List.length_take, List.length_drop, Array.length_toList]
      omega
    · intro j hj
      rw [List.getElem?_toArray, List.append_assoc, List.getElem?_append_left (by simp; omega), List.getElem?_take, if_pos (by omega), Array.getElem?_toList]
section
variable {α : Type} {P : Program} {B : Nat} {e : TypeId} {c : Nat} {f : α → List Value} {w w' W : World} {v : Value} {xs : List α}
def Row (B : Nat) (e : TypeId) (c : Nat) (f : α → List Value) (w : World) (v : Value) (xs : List α) : Prop := w.ownsRow B e c v xs.length (xs.flatMap f)
theorem flat_len (hf : ∀ x, (f x).length = c) : ∀ xs : List α, (xs.flatMap f).length = xs.length * c
  | [] => by simp
  | x :: xs => by rw [List.flatMap_cons, List.length_append, hf, flat_len hf xs, List.length_cons, Nat.succ_mul, Nat.add_comm]
theorem flat_get (hf : ∀ x, (f x).length = c) : ∀ (xs : List α) (k : Nat) (x : α), xs[k]? = some x → ∀ (j : Nat) (u : Value), (f x)[j]? = some u → (xs.flatMap f)[k * c + j]? = some u
  | [], k, x, hk, j, u, hu => by simp at hk
  | y :: xs, 0, x, hk, j, u, hu => by
    obtain rfl : y = x := by simpa using hk
    have hj := (List.getElem?_eq_some_iff.1 hu).1
    rw [List.flatMap_cons, Nat.zero_mul, Nat.zero_add, List.getElem?_append_left hj]
    exact hu
  | y :: xs, k + 1, x, hk, j, u, hu => by
    rw [List.flatMap_cons, List.getElem?_append_right (by rw [hf, Nat.succ_mul]; omega), hf, show (k + 1) * c + j - c = k * c + j by rw [Nat.succ_mul]; omega]
    exact flat_get hf xs k x (by simpa using hk) j u hu
theorem Row.nil (B : Nat) (w : World) (e : TypeId) (c : Nat) (f : α → List Value) : Row B e c f w (.slice none 0 0) [] := World.ownsRow_nil _ _ _ _
theorem Row.fr {F : Nat → Prop} (h : Row B e c f w v xs) (hf : Fr F w w') (hn : ∀ k, v.ownBlock = some k → ¬F k) : Row B e c f w' v xs := hf.owns h hn
theorem Row.lt (h : Row B e c f w v xs) : ∀ k, v.ownBlock = some k → B ≤ k ∧ k < w.heap.size := World.ownsRow.lt h
theorem Row.base {B' : Nat} (h : Row B e c f w v xs) (hb : ∀ k, v.ownBlock = some k → B' ≤ k) : Row B' e c f w v xs := by
  refine ⟨h.1, ?_⟩
  rcases h.2 with q | ⟨g, cap, cur, rfl, hg, rest⟩
  · exact .inl q
  · exact .inr ⟨g, cap, cur, rfl, hb g rfl, rest⟩
theorem Row.typ (h : Row B e c f w v xs) : ∀ k, v.ownBlock = some k → ∃ cur, w.heap[k]? = some (.cells cur e (0, 0)) := fun k hk => by
  rcases h.2 with ⟨rfl, _⟩ | ⟨g, cap, cur, rfl, _, hc, _⟩
  · cases hk
  · have hg : g = k := by simpa [Value.ownBlock] using hk
    subst hg
    exact ⟨cur, hc⟩
theorem Row.apart_typ {e2 : TypeId} {z : Array Value} {g : Nat} (h : Row B e c f w v xs) (hb : w.heap[g]? = some (.cells z e2 (0, 0))) (hne : e ≠ e2) : v.ownBlock ≠ some g := fun hk => by
  obtain ⟨cur, hc⟩ := h.typ g hk
  rw [hb] at hc
  exact hne (by have := Option.some.inj hc; injection this with _ h2 _; exact h2.symm)
theorem Row.form (h : Row B e c f w v xs) : ∃ a cap, v = .slice a xs.length cap := by
  rcases h.2 with ⟨rfl, hn⟩ | ⟨g, cap, cur, rfl, _⟩
  · exact ⟨none, 0, by rw [hn]⟩
  · exact ⟨_, cap, rfl⟩
theorem Row.own (h : Row B e c f w v xs) (hn : 0 < xs.length) : ∃ g cap, v = .slice (some ⟨g, 0, none⟩) xs.length cap ∧ v.ownBlock = some g := by
  rcases h.2 with ⟨rfl, hn'⟩ | ⟨g, cap, cur, rfl, _⟩
  · omega
  · exact ⟨g, cap, rfl, rfl⟩
theorem Row.cell (hf : ∀ x, (f x).length = c) {g n cap : Nat} (h : Row B e c f w (.slice (some ⟨g, 0, none⟩) n cap) xs) {k : Nat} {x : α} (hk : xs[k]? = some x) {j q : Nat} {u : Value} (hu : (f x)[j]? = some u) (hq : q = k * c + j) : w.cell? ⟨g, q, none⟩ = some u := by
  have := World.ownsRow.cells h (g := g) rfl (k * c + j) u (flat_get hf xs k x hk j u hu)
  rw [Addr.add_lit] at this
  rw [hq]
  simpa using this
theorem Row.free {g n cap q : Nat} (h : Row B e c f w (.slice (some ⟨g, 0, none⟩) n cap) xs) : w.frozen? ⟨g, q, none⟩ = false := by
  obtain ⟨cur, hc⟩ := h.typ g rfl
  simp [World.frozen?, hc]
theorem Row.lit {g : Nat} {x : α} (h : w.heap[g]? = some (.cells (f x).toArray e (0, 0))) (hf : (f x).length = c) (hb : B ≤ g) : Row B e c f w (.slice (some ⟨g, 0, none⟩) 1 1) [x] :=
  ⟨by simp [hf], .inr ⟨g, 1, _, rfl, hb, h, Nat.le_refl _, by decide, by simp [hf], by simp [← hf]⟩⟩
theorem Row.take (hf : ∀ x, (f x).length = c) {a : Option Addr} {m cap : Nat} (h : Row B e c f w (.slice a m cap) xs) (n : Nat) (hn : n ≤ xs.length) : Row B e c f w (.slice a n cap) (xs.take n) := by
  have hl : (xs.take n).length = n := by simp; omega
  refine ⟨by rw [flat_len hf], ?_⟩
  rcases h.2 with ⟨he, hz⟩ | ⟨g, cp, cur, he, hb, hc, hle, hm, hs, ht⟩
  · injection he with h1 h2 h3
    refine .inl ⟨by rw [h1, h3, show n = 0 by omega], by rw [hl]; omega⟩
  · injection he with h1 h2 h3
    subst h1 h2 h3
    refine .inr ⟨g, cap, cur, by rw [hl], hb, hc, by rw [hl]; omega, hm, hs, ?_⟩
    rw [hl]
    have e0 : xs.flatMap f = (xs.take n).flatMap f ++ (xs.drop n).flatMap f := by rw [← List.flatMap_append, List.take_append_drop]
    have e2 : ((xs.take n).flatMap f).length = n * c := by rw [flat_len hf, hl]
    have e1 : (xs.take n).flatMap f = (xs.flatMap f).take (n * c) := by
      rw [e0, ← e2]
      exact List.take_left.symm
    rw [e1, ← ht, List.take_take, Nat.min_eq_left (Nat.mul_le_mul_right _ hn)]
theorem Row.app (t ty : TypeId) {z : Value} {b : Nat} (hty : P.underlying t = some (.slice e)) (info : (P.info? e).map (fun i => (i.zero, i.size, i.bytes)) = some (some z, c, b)) (hz : z.cells.size = c) (hc : 0 < c) (hb : b ≤ 1000) (hf : ∀ x, (f x).length = c) (h1 : ∀ x u, u ∈ f x → u.oneCell' = true)
    (x : α) (h : Row B e c f W v xs) (hB : B ≤ W.heap.size) (hl : xs.length ≤ 1000000) {lit : Array Value} (hlit : lit = (f x).toArray) : ∃ v' w', (Builtin.append_ #[t, t] ty #[v, .slice (some ⟨W.heap.size, 0, none⟩) 1 1]).run P (W.alloc (.cells lit e)) = .ok v' w' ∧ (Row B e c f w' v' (xs ++ [x]) ∧ Fr (fun q => v.ownBlock = some q) W w' ∧ ∀ k, v'.ownBlock = some k → v.ownBlock = some k ∨ W.heap.size ≤ k) := by
  obtain ⟨i0, hi, hz0, hz1, hz2⟩ := info_row info
  have ha := fr_al (Fr.refl (fun _ => False) W) (.cells lit e)
  have h0 : (W.alloc (.cells lit e)).ownsRow B e c v xs.length (xs.flatMap f) := ha.owns h (fun _ _ => id)
  have hnews : ∀ j u, (f x)[j]? = Option.some u → (W.alloc (.cells lit e)).cell? ((⟨W.heap.size, 0, none⟩ : Addr).add j) = Option.some u := fun j u hj => by
    rw [Addr.add_lit, Nat.zero_add, hlit]
    exact fcell W _ _ j _ (by simpa using hj)
  have hb48 : (xs.length + 1) * b ≤ 140737488355328 := Nat.le_trans (Nat.mul_le_mul (show xs.length + 1 ≤ 1000001 by omega) hb) (by decide)
  obtain ⟨v', w', hr, h2, h3, h4⟩ := run_append_own (P := P) (W.alloc (.cells lit e)) B t ty e i0 z c b hty hi hz0 hz1 hz2 hz hc v xs.length (xs.flatMap f) h0 ⟨W.heap.size, 0, none⟩ 1 1 (f x) (by rw [hf]; omega) hnews (h1 x) (by unfold maxLen; omega) hb48 (Nat.le_trans hB ha.size)
  refine ⟨v', w', hr, ?_, (fr_al (Fr.refl _ W) _).trans (Fr.of_by h3), fun k hk => ?_⟩
  · unfold Row
    rw [List.length_append, List.flatMap_append, List.flatMap_cons, List.flatMap_nil, List.append_nil]
    exact h2
  · have hsz : (W.alloc (.cells lit e)).heap.size = W.heap.size + 1 := by simp
    have hsmall : xs.length + 1 ≤ 9223372036854775807 := by omega
    rcases h0.2 with ⟨hv, hn⟩ | ⟨g, cap, cur, hv, hbg, hg, hnc, hcm, hcs, htake⟩
    · subst hv
      have hr2 := run_append_nil (P := P) (W.alloc (.cells lit e)) t ty e i0 z hty hi hz0 ⟨W.heap.size, 0, none⟩ 1 1 (f x) (by rw [hf]; omega) hnews (by omega) (by omega) (by rw [hz2]; omega)
      rw [hr] at hr2
      obtain rfl := (Result.ok.inj hr2).1
      have : (W.alloc (.cells lit e)).heap.size = k := by simpa [Value.ownBlock] using hk
      exact .inr (by omega)
    · subst hv
      by_cases hroom : xs.length + 1 ≤ cap
      · have hfit : xs.length * i0.size + (f x).length ≤ cur.size := by rw [hf, hcs, hz1, ← Nat.succ_mul]; exact Nat.mul_le_mul_right _ hroom
        have hr2 := run_append_room (P := P) (W.alloc (.cells lit e)) t ty e i0 hty hi g xs.length cap cur hg ⟨W.heap.size, 0, none⟩ 1 1 (f x) (by rw [hf]; omega) hnews (h1 x) hroom hfit
        rw [hr] at hr2
        obtain rfl := (Result.ok.inj hr2).1
        exact .inl (by simpa [Value.ownBlock] using hk)
      · have holds : ∀ j u, (xs.flatMap f)[j]? = Option.some u → (W.alloc (.cells lit e)).cell? ((⟨g, 0, none⟩ : Addr).add j) = Option.some u := World.ownsRow.cells h0 (g := g) rfl
        have hr2 := run_append_grow (P := P) (W.alloc (.cells lit e)) t ty e i0 z hty hi hz0 ⟨g, 0, none⟩ xs.length cap (xs.flatMap f) (by rw [flat_len hf, hz1]) holds ⟨W.heap.size, 0, none⟩ 1 1 (f x) (by rw [hf]; omega) hnews (by omega) (by omega) (growslice_fits (by omega) (by rw [hz2]; exact hb48))
        rw [hr] at hr2
        obtain rfl := (Result.ok.inj hr2).1
        have : (W.alloc (.cells lit e)).heap.size = k := by simpa [Value.ownBlock] using hk
        exact .inr (by omega)
/-- A part of a row that is written over with zeros. -/
theorem Row.clear (t ty : TypeId) {z : Value} {b : Nat} (hty : P.underlying t = some (.slice e)) (info : (P.info? e).map (fun i => (i.zero, i.size, i.bytes)) = some (some z, 1, b)) (hzc : z.cells = #[z]) (hz1 : z.oneCell' = true) (hf : ∀ x, (f x).length = 1) {g cap : Nat} (h : Row B e 1 f w (.slice (some ⟨g, 0, none⟩) xs.length cap) xs) (k : Nat) (hk : k ≤ xs.length) : ∃ w', (Builtin.clear_ #[t] ty #[.slice (some ⟨g, if cap = k then 0 else 0 + k, none⟩) (xs.length - k) (cap - k)]).run P w = .ok (.tuple #[]) w' ∧ (Row B e 1 f w' (.slice (some ⟨g, 0, none⟩) k cap) (xs.take k) ∧ Fr (fun q => q = g) w w') := by
  obtain ⟨i0, hi, hz0, _, _⟩ := info_row info
  by_cases hz : xs.length - k = 0
  · refine ⟨w, by rw [hz]; simp [Builtin.clear_, run_underlying hty], ?_, Fr.refl _ _⟩
    have : k = xs.length := by omega
    subst this
    rw [List.take_length]
    exact h
  have hl : (xs.take k).length = k := by simp; omega
  have hfl : (xs.flatMap f).length = xs.length := by rw [flat_len hf, Nat.mul_one]
  rcases h.2 with ⟨he, _⟩ | ⟨g', cp, cur, he, hb, hc, hle, hm, hs, ht⟩
  · cases he
  · injection he with h1 h2 h3
    injection h1 with h1
    injection h1 with h1
    subst h1 h3
    rw [if_neg (show ¬ cap = k by omega), Nat.zero_add]
    obtain ⟨w', cur', hr, hg', hs', hsame, hF⟩ := run_clear (P := P) (w := w) t ty e i0 z hty hi hz0 hzc hz1 g k (xs.length - k) (cap - k) cur hc (by omega)
    refine ⟨w', hr, ⟨by rw [flat_len hf], .inr ⟨g, cap, cur', by rw [hl], hb, hg', by rw [hl]; omega, hm, by rw [hs', hs], ?_⟩⟩, hF⟩
    rw [hl, Nat.mul_one]
    have e0 : xs.flatMap f = (xs.take k).flatMap f ++ (xs.drop k).flatMap f := by rw [← List.flatMap_append, List.take_append_drop]
    have e2 : ((xs.take k).flatMap f).length = k := by rw [flat_len hf, hl, Nat.mul_one]
    have e1 : (xs.take k).flatMap f = (xs.flatMap f).take k := by
      have e3 := List.take_append_of_le_length (l₂ := (xs.drop k).flatMap f) (show k ≤ ((xs.take k).flatMap f).length by omega)
      have e4 : ((xs.take k).flatMap f).take k = (xs.take k).flatMap f := List.take_of_length_le (by omega)
      rw [e0, e3, e4]
    rw [e1, ← ht, List.take_take, Nat.mul_one, Nat.min_eq_left hk]
    apply List.ext_getElem?
    intro j
    rw [List.getElem?_take, List.getElem?_take]
    split
    · rename_i hj
      rw [Array.getElem?_toList, Array.getElem?_toList]
      exact hsame j hj
    · rfl
/-- One cell of an element written. -/
theorem Row.upd (hf : ∀ x, (f x).length = c) {g n cap : Nat} (h : Row B e c f w (.slice (some ⟨g, 0, none⟩) n cap) xs) {k : Nat} (hk : k < xs.length) {j q : Nat} (hj : j < c) (hq : q = k * c + j) (u : Value) (x' : α) (hx : ∀ x, xs[k]? = some x → f x' = (f x).set j u) : Row B e c f (w.setCell ⟨g, q, none⟩ u) (.slice (some ⟨g, 0, none⟩) n cap) (xs.set k x') := by
  have hn : n = xs.length := by
    obtain ⟨a, cp, he⟩ := h.form
    injection he
  refine ⟨by rw [flat_len hf], ?_⟩
  rcases h.2 with ⟨he, _⟩ | ⟨g', cp, cur, he, hb, hc, hle, hm, hs, ht⟩
  · cases he
  · injection he with h1 h2 h3
    injection h1 with h1
    injection h1 with h1
    subst h1 h3
    have hqc : q < xs.length * c := by
      have := Nat.mul_le_mul_right c (show k + 1 ≤ xs.length from hk)
      rw [Nat.succ_mul] at this
      omega
    have hqs : q < cur.size := by rw [hs]; exact Nat.lt_of_lt_of_le hqc (Nat.mul_le_mul_right c hle)
    refine .inr ⟨g, cap, _, by rw [List.length_set, hn], hb, heap_setCell_same w g q cur _ _ hc, by rw [List.length_set]; exact hle, hm, by simp [hs], ?_⟩
    rw [List.length_set]
    apply List.ext_getElem?
    intro m
    rw [List.getElem?_take]
    by_cases hmn : m < xs.length * c
    · rw [if_pos hmn, Array.getElem?_toList, Array.getElem?_setIfInBounds]
      have hold : (xs.flatMap f)[m]? = cur[m]? := by
        rw [← ht, List.getElem?_take, if_pos hmn, Array.getElem?_toList]
      have hxs : xs[k]? = Option.some xs[k] := List.getElem?_eq_getElem hk
      have hx' := hx _ hxs
      -- where m lies
      have hc0 : 0 < c := by omega
      have hdiv := Nat.div_add_mod m c
      have hmod := Nat.mod_lt m hc0
      have hdl : m / c < xs.length := Nat.div_lt_of_lt_mul (by rw [Nat.mul_comm]; exact hmn)
      have hm2 : m = (m / c) * c + m % c := by rw [Nat.mul_comm]; exact hdiv.symm
      by_cases hd : m / c = k
      · have hkm : (xs.set k x')[k]? = Option.some x' := by simp [hk]
        have hu : m % c < (f x').length := by rw [hf]; exact hmod
        have r := flat_get hf (xs.set k x') k x' hkm (m % c) (f x')[m % c] (List.getElem?_eq_getElem hu)
        rw [hd] at hm2
        rw [← hm2] at r
        rw [r]
        by_cases hqm : q = m
        · have hjm : m % c = j := by omega
          rw [if_pos hqm, if_pos hqs]
          congr 1
          simp only [hx', hjm, List.getElem_set_self]
        · have hjm : m % c ≠ j := by omega
          rw [if_neg hqm, ← hold]
          have r2 := flat_get hf xs k xs[k] hxs (m % c) ((f xs[k])[m % c]'(by rw [hf]; exact hmod)) (List.getElem?_eq_getElem _)
          rw [← hm2] at r2
          rw [r2]
          congr 1
          simp only [hx']
          rw [List.getElem_set_ne (fun e => hjm e.symm)]
      · have hkm : (xs.set k x')[m / c]? = Option.some xs[m / c] := by
          rw [List.getElem?_set_ne (fun e => hd e.symm), List.getElem?_eq_getElem hdl]
        have hu : m % c < (f xs[m / c]).length := by rw [hf]; exact hmod
        have r := flat_get hf (xs.set k x') (m / c) xs[m / c] hkm (m % c) (f xs[m / c])[m % c] (List.getElem?_eq_getElem hu)
        have r2 := flat_get hf xs (m / c) xs[m / c] (List.getElem?_eq_getElem hdl) (m % c) (f xs[m / c])[m % c] (List.getElem?_eq_getElem hu)
        rw [← hm2] at r r2
        have hqm : q ≠ m := fun e => hd (by
          rw [← e, hq, Nat.mul_comm, Nat.mul_add_div hc0, Nat.div_eq_of_lt hj, Nat.add_zero])
        rw [r, if_neg hqm, ← hold, r2]
    · rw [if_neg hmn, List.getElem?_eq_none (by rw [flat_len hf, List.length_set]; omega)]
end
theorem O.clr {P : Program} {ops : Array Oper} {N : Nat} {Q : Exit → Act → World → Prop} {s : List (Nat × Value)} {l : List Oper} {o : Oper} {w : World} {x : Operand} {t : TypeId} {u : Value} {R : World → Prop} (hop : o.op = .call ⟨.builtin .clear, #[x], #[t]⟩) (hd : o.dst = none) (hg : gd ops s o = some true) (hu : ev s x = some u) (hr : ∃ w', (Builtin.clear_ #[t] o.type #[u]).run P w = .ok (.tuple #[]) w' ∧ R w') (h : ∀ w', R w' → WL P ops N Q s l w') : WL P ops N Q s (o :: l) w := fun a k => by
  obtain ⟨w', h1, h2⟩ := hr
  have hv := k.eval hu
  unfold wpList
  rw [gd_wanted k hg, if_pos rfl]
  refine .inl ?_
  unfold Oper.wp
  have he : (execOp a.eval o).run P w = .ok (.value (.tuple #[])) w' := by
    unfold execOp
    rw [hop]
    generalize a.eval = e at *
    simp [go_sem, hv, h1]
  rw [he]
  unfold Oper.upon
  rw [hd]
  exact h w' h2 a k
theorem run_nck {P : Program} {e : Operand → Value} {o : Oper} {x : Operand} {p : Addr} {w : World} (hop : o.op = .nilCheck x) (h1 : e x = .pointer (some p)) : (execOp e o).run P w = .ok (.value (.pointer (some p))) w := by
  unfold execOp
  rw [hop]
  simp [go_sem, h1]
theorem O.nck {P : Program} {ops : Array Oper} {N : Nat} {Q : Exit → Act → World → Prop} {s : List (Nat × Value)} {l : List Oper} {o : Oper} {d : Nat} {w : World} {x : Operand} {p : Addr} (hop : o.op = .nilCheck x) (hd : o.dst = some d) (hN : Nat.blt d N = true) (hg : gd ops s o = some true) (hu : ev s x = some (.pointer (some p))) (h : WL P ops N Q ((d, .pointer (some p)) :: s) l w) : WL P ops N Q s (o :: l) w :=
  WL.run hd hN hg (fun a k => run_nck hop (k.eval hu)) h
theorem RH.nck {P : Program} {S : World → Prop} {N : Nat} {s : List (Nat × Value)} {o : Oper} {x : Operand} {p : Addr} (hop : o.op = .nilCheck x) (hu : ev s x = some (.pointer (some p))) : ∀ a, Kn N s a → ∀ w, S w → (execOp a.eval o).run P w = .ok (.value (.pointer (some p))) w := fun a k w _ => run_nck hop (k.eval hu)
theorem Q.nck {P : Program} {C : World → Prop} {N : Nat} {s : List (Nat × Value)} {o : Oper} {x : Operand} {p : Addr} (hop : o.op = .nilCheck x) (hu : ev s x = some (.pointer (some p))) : ∀ a, Kn N s a → ∀ w, C w → o.quietAt P a C w (.pointer (some p)) := fun a k w _ => quietAt_of (run_nck hop (k.eval hu))
section
variable {α : Type} {P : Program} {B : Nat} {e : TypeId} {c : Nat} {f : α → List Value} {w w' W : World} {v : Value} {xs : List α}
/-- A row copied over another one. -/
theorem Row.copy (dT ty : TypeId) (hu : P.underlying dT = some (.slice e)) (hs : (P.info? e).map (·.size) = some 1) (hf : ∀ x, (f x).length = 1) (h1 : ∀ x u, u ∈ f x → u.oneCell' = true) {B2 : Nat} {ys : List α} {g h cp cp2 : Nat} (hd : Row B e 1 f w (.slice (some ⟨g, 0, none⟩) xs.length cp) xs) (hy : Row B2 e 1 f w (.slice (some ⟨h, 0, none⟩) ys.length cp2) ys) (hl : ys.length = xs.length) : ∃ v' w', (Builtin.copy_ #[dT, dT] ty #[.slice (some ⟨g, 0, none⟩) xs.length cp, .slice (some ⟨h, 0, none⟩) ys.length cp2]).run P w = .ok v' w' ∧ (Row B e 1 f w' (.slice (some ⟨g, 0, none⟩) xs.length cp) ys ∧ Fr (fun q => q = g) w w') := by
  have hfl : (ys.flatMap f).length = ys.length := by rw [flat_len hf, Nat.mul_one]
  rcases hd.2 with ⟨he, _⟩ | ⟨g', c', cur, he, hb, hc, hle, hm, hsz, ht⟩
  · cases he
  · injection he with e1 e2 e3
    injection e1 with e1
    injection e1 with e1
    subst e1 e3
    have hone : ∀ v ∈ ys.flatMap f, v.oneCell' = true := fun u hu => by
      obtain ⟨x, _, hx⟩ := List.mem_flatMap.1 hu
      exact h1 x u hx
    have hsrc : ∀ j v, (ys.flatMap f)[j]? = some v → w.cell? ((⟨h, 0, none⟩ : Addr).add j) = some v := World.ownsRow.cells hy (g := h) rfl
    have hr := run_copy_row (P := P) w dT dT ty e g 0 xs.length cp ⟨h, 0, none⟩ ys.length cp2 cur e (ys.flatMap f) hu hs hc (by rw [hfl, hl]; exact (Nat.min_self _).symm) hsrc (by rw [hfl, hsz]; omega) hone
    refine ⟨_, _, hr, ⟨by rw [flat_len hf], .inr ⟨g, cp, _, by rw [hl], hb, setRow_heap w g cur _ e _ hc, by rw [hl]; exact hle, hm, ?_, ?_⟩⟩, ⟨rfl, rfl, by simp [World.setRow], fun k hk hn => setRow_other w g k _ hn⟩⟩
    · simp only [List.size_toArray, List.length_append, List.length_take, List.length_drop, Array.length_toList, hfl, hsz]
      omega
    · simp only [List.take_zero, List.nil_append, Nat.mul_one]
      rw [List.take_left' hfl]
end
theorem O.copy {P : Program} {ops : Array Oper} {N : Nat} {Q : Exit → Act → World → Prop} {s : List (Nat × Value)} {l : List Oper} {o : Oper} {d : Nat} {w : World} {x y : Operand} {t t' : TypeId} {u v : Value} {R : Value → World → Prop} (hop : o.op = .call { callee := .builtin .copy, args := #[x, y], argTypes := #[t, t'] }) (hd : o.dst = some d) (hN : Nat.blt d N = true) (hg : gd ops s o = some true) (hu : ev s x = some u) (hv : ev s y = some v) (hr : ∃ v' w', (Builtin.copy_ #[t, t'] o.type #[u, v]).run P w = .ok v' w' ∧ R v' w') (h : ∀ v' w', R v' w' → WL P ops N Q ((d, v') :: s) l w') : WL P ops N Q s (o :: l) w := fun a k => by
  have h1 := k.eval hu
  have h2 := k.eval hv
  obtain ⟨v', w', hq, hR⟩ := hr
  unfold wpList
  rw [gd_wanted k hg, if_pos rfl]
  refine .inl ?_
  unfold Oper.wp execOp
  simp only [hop, resolve, invoke, builtin, Sem.run_bind, Sem.run_pure, Result.andThen_ok, List.map_toArray, List.map_cons, List.map_nil, h1, h2, hq]
  unfold Oper.upon
  rw [hd]
  exact h v' w' hR _ (k.put hN _)
end Go.Proofs.Ythdkmjbeemfbbaa
