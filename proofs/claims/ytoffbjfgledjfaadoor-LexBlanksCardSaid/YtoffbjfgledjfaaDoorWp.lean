/-
  A walk over a frame of which some slots are known: function values, results in cells.
-/
import Derived.Test.YtoffbjfgledjfaaDoorWo
import Derived.Laws.ResultCell
namespace Go.Proofs.YtoffbjfgledjfaaDoor
open Go.RowKit
set_option linter.unusedVariables false
set_option linter.unusedSimpArgs false
section
variable {P : Program} {ops : Array Oper} {N : Nat} {Q : Exit → Act → World → Prop} {s : List (Nat × Value)} {l : List Oper} {o : Oper} {d : Nat} {w : World}
theorem evl {a : Act} (k : Kn N s a) : ∀ (fs : List Value) (xs : List Operand) (cs as : List Value), fs.map some ++ (xs.map (ev s) ++ cs.map some) = as.map some → fs ++ (xs.map a.eval ++ cs) = as
  | [], [], cs, as, h => by
    simp only [List.map_nil, List.nil_append] at h ⊢
    exact (List.map_inj_right (fun _ _ h => Option.some.inj h)).1 h
  | [], x :: xs, cs, [], h => by simp at h
  | [], x :: xs, cs, y :: as, h => by
    simp only [List.map_nil, List.nil_append, List.map_cons, List.cons_append, List.cons.injEq] at h ⊢
    exact ⟨k.eval h.1, by simpa using evl k [] xs cs as (by simpa using h.2)⟩
  | f :: fs, xs, cs, [], h => by simp at h
  | f :: fs, xs, cs, y :: as, h => by
    simp only [List.map_cons, List.cons_append, List.cons.injEq, Option.some.injEq] at h ⊢
    exact ⟨h.1, evl k fs xs cs as h.2⟩
theorem O.callvE {f : Nat} {g : Operand} {fs cs : Array Value} {xs ts : Array _} {as : Array Value} (hop : o.op = .call ⟨.value g, xs, ts⟩) (hf : ev s g = some (.func (.func f) fs cs)) (hu : fs.toList.map some ++ (xs.toList.map (ev s) ++ cs.toList.map some) = as.toList.map some) (hc : ∀ w, (callFunc f as).run P w = .ok (.enter f as) w) (a : Act) (k : Kn N s a) : (execOp a.eval o).run P w = .ok (.enter f as) w := by
  have hm := evl k _ _ _ _ hu
  have hf := k.eval hf
  have hm2 : fs ++ (xs.map a.eval ++ cs) = as := by
    apply Array.toList_inj.1
    simpa using hm
  unfold execOp
  rw [hop]
  subst hm2
  generalize a.eval = e at *
  simp [go_sem, hf, hc]
/-- A call of a function value. -/
theorem O.callv {f : Nat} {g : Operand} {fs cs : Array Value} {xs ts : Array _} {as : Array Value} {R : Ending → World → Prop} (hop : o.op = .call ⟨.value g, xs, ts⟩) (hd : o.dst = some d) (hN : Nat.blt d N = true) (hg : gd ops s o = some true) (hf : ev s g = some (.func (.func f) fs cs)) (hu : fs.toList.map some ++ (xs.toList.map (ev s) ++ cs.toList.map some) = as.toList.map some) (hc : ∀ w, (callFunc f as).run P w = .ok (.enter f as) w) (hr : Calls P f as w R) (h : ∀ e w', R e w' → ∃ v, e = .returned v ∧ WL P ops N Q ((d, v) :: s) l w') : WL P ops N Q s (o :: l) w := fun a k => by
  unfold wpList
  rw [gd_wanted k hg, if_pos rfl]
  refine .inl ?_
  unfold Oper.wp
  rw [O.callvE hop hf hu hc a k]
  unfold Oper.upon
  refine hr.mono fun e w' q => ?_
  obtain ⟨v, rfl, hv⟩ := h e w' q
  rw [hd]
  exact hv _ (k.put hN _)
theorem O.mf {fn : Fn} {xs ys : Array Operand} {vs us : Array Value} {v : Value} {w' : World} (hop : o.op = .makeFunc fn xs ys) (hd : o.dst = some d) (hN : Nat.blt d N = true) (hg : gd ops s o = some true) (h1 : xs.toList.map (ev s) = vs.toList.map some) (h2 : ys.toList.map (ev s) = us.toList.map some) (hr : (Instr.makeFunc fn vs us).run P w = .ok v w') (h : WL P ops N Q ((d, v) :: s) l w') : WL P ops N Q s (o :: l) w :=
  WL.run hd hN hg (fun a k => by
    have k1 := evs k h1
    have k2 := evs k h2
    unfold execOp
    rw [hop]
    simp only [k1, k2, Sem.run_bind, hr, Result.andThen_ok, Sem.run_pure]) h
end
theorem O.bmax {P : Program} {ops : Array Oper} {N : Nat} {Q : Exit → Act → World → Prop} {s : List (Nat × Value)} {l : List Oper} {o : Oper} {d : Nat} {w : World} {x y : Operand} {t t2 : TypeId} {u u2 v : Value} (hop : o.op = .call ⟨.builtin .max, #[x, y], #[t, t2]⟩) (hd : o.dst = some d) (hN : Nat.blt d N = true) (hg : gd ops s o = some true) (hu : ev s x = some u) (hu2 : ev s y = some u2) (hr : (Builtin.max_ #[t, t2] o.type #[u, u2]).run P w = .ok v w) (h : WL P ops N Q ((d, v) :: s) l w) : WL P ops N Q s (o :: l) w :=
  WL.run hd hN hg (fun a k => by
    have h1 := k.eval hu
    have h2 := k.eval hu2
    unfold execOp
    rw [hop]
    generalize a.eval = e at *
    simp [go_sem, h1, h2, hr]) h
theorem mf_any {P : Program} (fn : Fn) (vs us : Array Value) (w : World) : (Instr.makeFunc fn vs us).run P w = .ok (.func fn vs us) w := by simp [go_sem]
theorem O.retc2 {P : Program} {N : Nat} {s : List (Nat × Value)} {w : World} {fn : Func} {R : Ending → World → Prop} {t u : Nat} {ty : TypeId} {p : Addr} {v v' : Value} (hr : fn.results = #[.cell t ty, .tmp u]) (hv : lk s t = some (.pointer (some p))) (hv' : lk s u = some v') (hl : (loadVar ty p).run P w = .ok v w) (h : R (.returned (.tuple #[v, v'])) w) : Xw .ret N (bodyPost P fn R) s w := fun a k => by
  refine ⟨k.defers, .tuple #[v, v'], ?_, h⟩
  rw [results_cell_tmp hr]
  have h1 := k.has t _ hv
  have h2 := k.has u v' hv'
  simp only [Array.getD_eq_getD_getElem?, h1, h2, Option.getD_some]
  simp [asAddr, hl, Result.andThen, Sem.run_pure]
theorem O.retc1 {P : Program} {N : Nat} {s : List (Nat × Value)} {w : World} {fn : Func} {R : Ending → World → Prop} {t : Nat} {ty : TypeId} {p : Addr} {v : Value} (hr : fn.results = #[.cell t ty]) (hv : lk s t = some (.pointer (some p))) (hl : (loadVar ty p).run P w = .ok v w) (h : R (.returned v) w) : Xw .ret N (bodyPost P fn R) s w := fun a k => by
  refine ⟨k.defers, v, ?_, h⟩
  have h1 := k.has t _ hv
  simp [results, hr, h1, asAddr, hl]
end Go.Proofs.YtoffbjfgledjfaaDoor
