/-
  A walk over a frame of which some slots are known: an operation of each kind, by its run.
-/
import Derived.Test.YthdkmjbeemfbbaaQWh
namespace Go.Proofs.Ythdkmjbeemfbbaa
open Go.RowKit
set_option linter.unusedVariables false
set_option linter.unusedSimpArgs false
theorem O.cv {P : Program} {ops : Array Oper} {N : Nat} {Q : Exit → Act → World → Prop} {s : List (Nat × Value)} {l : List Oper} {o : Oper} {d : Nat} {w w' : World} {t t2 : TypeId} {x : Operand} {u v : Value} (hop : o.op = .convert t t2 x) (hd : o.dst = some d) (hN : Nat.blt d N = true) (hg : gd ops s o = some true) (h0 : ev s x = some u) (hr : (convert t t2 u).run P w = .ok v w') (h : WL P ops N Q ((d, v) :: s) l w') : WL P ops N Q s (o :: l) w :=
  WL.run hd hN hg (fun a k => by
    have k0 := k.eval h0
    unfold execOp
    rw [hop]
    simp only [k0, Sem.run_bind, hr, Result.andThen_ok, Sem.run_pure]) h
theorem O.ixa {P : Program} {ops : Array Oper} {N : Nat} {Q : Exit → Act → World → Prop} {s : List (Nat × Value)} {l : List Oper} {o : Oper} {d : Nat} {w w' : World} {t : TypeId} {x y : Operand} {u u2 v : Value} (hop : o.op = .indexAddr t x y) (hd : o.dst = some d) (hN : Nat.blt d N = true) (hg : gd ops s o = some true) (h0 : ev s x = some u) (h1 : ev s y = some u2) (hr : (Instr.indexAt t u u2).run P w = .ok v w') (h : WL P ops N Q ((d, v) :: s) l w') : WL P ops N Q s (o :: l) w :=
  WL.run hd hN hg (fun a k => by
    have k0 := k.eval h0
    have k1 := k.eval h1
    unfold execOp
    rw [hop]
    simp only [k0, k1, Sem.run_bind, hr, Result.andThen_ok, Sem.run_pure]) h
theorem O.fa {P : Program} {ops : Array Oper} {N : Nat} {Q : Exit → Act → World → Prop} {s : List (Nat × Value)} {l : List Oper} {o : Oper} {d : Nat} {w w' : World} {t : TypeId} {j : Nat} {x : Operand} {u v : Value} (hop : o.op = .fieldAddr t x j) (hd : o.dst = some d) (hN : Nat.blt d N = true) (hg : gd ops s o = some true) (h0 : ev s x = some u) (hr : (Instr.fieldAt t u j).run P w = .ok v w') (h : WL P ops N Q ((d, v) :: s) l w') : WL P ops N Q s (o :: l) w :=
  WL.run hd hN hg (fun a k => by
    have k0 := k.eval h0
    unfold execOp
    rw [hop]
    simp only [k0, Sem.run_bind, hr, Result.andThen_ok, Sem.run_pure]) h
theorem O.fd {P : Program} {ops : Array Oper} {N : Nat} {Q : Exit → Act → World → Prop} {s : List (Nat × Value)} {l : List Oper} {o : Oper} {d : Nat} {w w' : World} {t : TypeId} {j : Nat} {x : Operand} {u v : Value} (hop : o.op = .field t x j) (hd : o.dst = some d) (hN : Nat.blt d N = true) (hg : gd ops s o = some true) (h0 : ev s x = some u) (hr : (Instr.field t u j).run P w = .ok v w') (h : WL P ops N Q ((d, v) :: s) l w') : WL P ops N Q s (o :: l) w :=
  WL.run hd hN hg (fun a k => by
    have k0 := k.eval h0
    unfold execOp
    rw [hop]
    simp only [k0, Sem.run_bind, hr, Result.andThen_ok, Sem.run_pure]) h
theorem O.rg {P : Program} {ops : Array Oper} {N : Nat} {Q : Exit → Act → World → Prop} {s : List (Nat × Value)} {l : List Oper} {o : Oper} {d : Nat} {w w' : World} {t : TypeId} {x : Operand} {u v : Value} (hop : o.op = .range t x) (hd : o.dst = some d) (hN : Nat.blt d N = true) (hg : gd ops s o = some true) (h0 : ev s x = some u) (hr : (Instr.range t u).run P w = .ok v w') (h : WL P ops N Q ((d, v) :: s) l w') : WL P ops N Q s (o :: l) w :=
  WL.run hd hN hg (fun a k => by
    have k0 := k.eval h0
    unfold execOp
    rw [hop]
    simp only [k0, Sem.run_bind, hr, Result.andThen_ok, Sem.run_pure]) h
theorem O.mk {P : Program} {ops : Array Oper} {N : Nat} {Q : Exit → Act → World → Prop} {s : List (Nat × Value)} {l : List Oper} {o : Oper} {d : Nat} {w w' : World} {t : TypeId} {x y : Operand} {u u2 v : Value} (hop : o.op = .makeSlice t x y) (hd : o.dst = some d) (hN : Nat.blt d N = true) (hg : gd ops s o = some true) (h0 : ev s x = some u) (h1 : ev s y = some u2) (hr : (Instr.makeSlice t u u2).run P w = .ok v w') (h : WL P ops N Q ((d, v) :: s) l w') : WL P ops N Q s (o :: l) w :=
  WL.run hd hN hg (fun a k => by
    have k0 := k.eval h0
    have k1 := k.eval h1
    unfold execOp
    rw [hop]
    simp only [k0, k1, Sem.run_bind, hr, Result.andThen_ok, Sem.run_pure]) h
theorem O.sl1 {P : Program} {ops : Array Oper} {N : Nat} {Q : Exit → Act → World → Prop} {s : List (Nat × Value)} {l : List Oper} {o : Oper} {d : Nat} {w w' : World} {t : TypeId} {x y : Operand} {u u2 v : Value} (hop : o.op = .slice t x (some y) none none) (hd : o.dst = some d) (hN : Nat.blt d N = true) (hg : gd ops s o = some true) (h0 : ev s x = some u) (h1 : ev s y = some u2) (hr : (Instr.sliceAt t u (some u2) none none).run P w = .ok v w') (h : WL P ops N Q ((d, v) :: s) l w') : WL P ops N Q s (o :: l) w :=
  WL.run hd hN hg (fun a k => by
    have k0 := k.eval h0
    have k1 := k.eval h1
    unfold execOp
    rw [hop]
    simp only [Option.map_some, Option.map_none, k0, k1, Sem.run_bind, hr, Result.andThen_ok, Sem.run_pure]) h
theorem O.sl2 {P : Program} {ops : Array Oper} {N : Nat} {Q : Exit → Act → World → Prop} {s : List (Nat × Value)} {l : List Oper} {o : Oper} {d : Nat} {w w' : World} {t : TypeId} {x y : Operand} {u u2 v : Value} (hop : o.op = .slice t x none (some y) none) (hd : o.dst = some d) (hN : Nat.blt d N = true) (hg : gd ops s o = some true) (h0 : ev s x = some u) (h1 : ev s y = some u2) (hr : (Instr.sliceAt t u none (some u2) none).run P w = .ok v w') (h : WL P ops N Q ((d, v) :: s) l w') : WL P ops N Q s (o :: l) w :=
  WL.run hd hN hg (fun a k => by
    have k0 := k.eval h0
    have k1 := k.eval h1
    unfold execOp
    rw [hop]
    simp only [Option.map_some, Option.map_none, k0, k1, Sem.run_bind, hr, Result.andThen_ok, Sem.run_pure]) h
theorem O.sl12 {P : Program} {ops : Array Oper} {N : Nat} {Q : Exit → Act → World → Prop} {s : List (Nat × Value)} {l : List Oper} {o : Oper} {d : Nat} {w w' : World} {t : TypeId} {x y z : Operand} {u u2 u3 v : Value} (hop : o.op = .slice t x (some y) (some z) none) (hd : o.dst = some d) (hN : Nat.blt d N = true) (hg : gd ops s o = some true) (h0 : ev s x = some u) (h1 : ev s y = some u2) (h2 : ev s z = some u3) (hr : (Instr.sliceAt t u (some u2) (some u3) none).run P w = .ok v w') (h : WL P ops N Q ((d, v) :: s) l w') : WL P ops N Q s (o :: l) w :=
  WL.run hd hN hg (fun a k => by
    have k0 := k.eval h0
    have k1 := k.eval h1
    have k2 := k.eval h2
    unfold execOp
    rw [hop]
    simp only [Option.map_some, Option.map_none, k0, k1, k2, Sem.run_bind, hr, Result.andThen_ok, Sem.run_pure]) h
theorem O.len {P : Program} {ops : Array Oper} {N : Nat} {Q : Exit → Act → World → Prop} {s : List (Nat × Value)} {l : List Oper} {o : Oper} {d : Nat} {w : World} {x : Operand} {u v : Value} {t : TypeId} (hop : o.op = .call ⟨.builtin .len, #[x], #[t]⟩) (hd : o.dst = some d) (hN : Nat.blt d N = true) (hg : gd ops s o = some true) (hu : ev s x = some u) (hr : (Builtin.len_ #[t] o.type #[u]).run P w = .ok v w) (h : WL P ops N Q ((d, v) :: s) l w) : WL P ops N Q s (o :: l) w :=
  WL.run hd hN hg (fun a k => by
    have h1 := k.eval hu
    unfold execOp
    rw [hop]
    generalize a.eval = e at *
    simp [go_sem, h1, hr]) h
theorem O.ext {P : Program} {ops : Array Oper} {N : Nat} {Q : Exit → Act → World → Prop} {s : List (Nat × Value)} {l : List Oper} {o : Oper} {d : Nat} {w : World} {x : Operand} {j : Nat} {vs : Array Value} {v : Value} (hop : o.op = .extract x j) (hd : o.dst = some d) (hN : Nat.blt d N = true) (hg : gd ops s o = some true) (hu : ev s x = some (.tuple vs)) (hv : vs[j]? = some v) (h : WL P ops N Q ((d, v) :: s) l w) : WL P ops N Q s (o :: l) w :=
  WL.run hd hN hg (fun a k => RH.extract (S := fun _ => True) hop hu hv a k w trivial) h
theorem O.parts {N : Nat} {s : List (Nat × Value)} {a : Act} (k : Kn N s a) {ps : Array (Nat × Operand)} {vs : Array (Nat × Value)} (hu : ps.toList.map (fun p => (p.1, ev s p.2)) = vs.toList.map (fun p => (p.1, some p.2))) : ps.map (fun p => (p.1, a.eval p.2)) = vs := by
  apply Array.toList_inj.1
  rw [Array.toList_map]
  revert hu
  generalize ps.toList = l
  generalize vs.toList = m
  induction l generalizing m with
  | nil => intro hu; cases m <;> simp_all
  | cons x l ih =>
    intro hu
    cases m with
    | nil => simp at hu
    | cons y m =>
      simp only [List.map_cons, List.cons.injEq, Prod.mk.injEq] at hu ⊢
      exact ⟨Prod.ext hu.1.1 (k.eval hu.1.2), ih m hu.2⟩
theorem O.bld {P : Program} {ops : Array Oper} {N : Nat} {Q : Exit → Act → World → Prop} {s : List (Nat × Value)} {l : List Oper} {o : Oper} {d : Nat} {w w' : World} {t : TypeId} {ps : Array (Nat × Operand)} {vs : Array (Nat × Value)} {v : Value} (hop : o.op = .build t ps) (hd : o.dst = some d) (hN : Nat.blt d N = true) (hg : gd ops s o = some true) (hu : ps.toList.map (fun p => (p.1, ev s p.2)) = vs.toList.map (fun p => (p.1, some p.2))) (hr : (Instr.build t vs).run P w = .ok v w') (h : WL P ops N Q ((d, v) :: s) l w') : WL P ops N Q s (o :: l) w :=
  WL.run hd hN hg (fun a k => by
    have hm : ps.map (fun p => (p.1, a.eval p.2)) = vs := O.parts k hu
    unfold execOp
    rw [hop]
    simp only [hm, Sem.run_bind, hr, Result.andThen_ok, Sem.run_pure]) h
theorem O.bsl {P : Program} {ops : Array Oper} {N : Nat} {Q : Exit → Act → World → Prop} {s : List (Nat × Value)} {l : List Oper} {o : Oper} {d : Nat} {w w' : World} {t : TypeId} {m : Nat} {ps : Array (Nat × Operand)} {vs : Array (Nat × Value)} {v : Value} (hop : o.op = .buildSlice t m ps) (hd : o.dst = some d) (hN : Nat.blt d N = true) (hg : gd ops s o = some true) (hu : ps.toList.map (fun p => (p.1, ev s p.2)) = vs.toList.map (fun p => (p.1, some p.2))) (hr : (Instr.buildSlice t m vs).run P w = .ok v w') (h : WL P ops N Q ((d, v) :: s) l w') : WL P ops N Q s (o :: l) w :=
  WL.run hd hN hg (fun a k => by
    have hm : ps.map (fun p => (p.1, a.eval p.2)) = vs := O.parts k hu
    unfold execOp
    rw [hop]
    simp only [hm, Sem.run_bind, hr, Result.andThen_ok, Sem.run_pure]) h
/-- A Bool that is not known: both ways. -/
theorem O.split {P : Program} {ops : Array Oper} {N : Nat} {Q : Exit → Act → World → Prop} {s : List (Nat × Value)} {l : List Oper} {d : Nat} {w : World} {b : Bool} (ht : b = true → WL P ops N Q ((d, .bool true) :: s) l w) (hf : b = false → WL P ops N Q ((d, .bool false) :: s) l w) : WL P ops N Q ((d, .bool b) :: s) l w := by
  cases b
  · exact hf rfl
  · exact ht rfl
theorem O.mid {P : Program} {N : Nat} {Q : Exit → Act → World → Prop} {s : List (Nat × Value)} {x y : Code} {w : World} (I : Act → World → Prop) (h1 : TW P N (Exit.then I Q) s x w) (h2 : ∀ a w, I a w → y.wp P Q a w) : TW P N Q s (.seq x y) w := fun a k => by
  refine wp_seq (wp_mono (h1 a k) ?_)
  intro e a' w' q
  cases e with
  | normal => exact h2 a' w' q
  | exit id => exact q
  | goto l => exact q
  | ret => exact q
  | panic ch => exact q
  | outgrown => exact q
/-- A loop whose rounds are counted by any measure. -/
theorem O.loopG {P : Program} {N : Nat} {Q : Exit → Act → World → Prop} {s : List (Nat × Value)} {x : Code} {w : World} {n : Nat} (val : Act → World → Nat) (I : Nat → Act → World → Prop) (ht : ∀ j a w, I j a w → val a w = j) (j0 : Nat) (hj0 : j0 ≤ n) (h0 : ∀ a, Kn N s a → I j0 a w)
    (round : ∀ j a w, j ≤ n → I j a w → x.wp P (Exit.then (fun a w => ∃ j', j < j' ∧ j' ≤ n ∧ I j' a w) Q) a w) : TW P N Q s (.loop x) w := fun a k => by
  refine wp_loop (fun a w => ∃ j, j ≤ n ∧ I j a w) (fun a w => n - val a w) ⟨j0, hj0, h0 a k⟩ ?_
  rintro a w ⟨j, hj, hI⟩
  refine wp_mono (round j a w hj hI) ?_
  intro e a' w' q
  cases e with
  | normal =>
    obtain ⟨j', h1, h2, h3⟩ := q
    refine ⟨⟨j', h2, h3⟩, ?_⟩
    simp only [ht j a w hI, ht j' a' w' h3]
    omega
  | exit id => exact q
  | goto l => exact q
  | ret => exact q
  | panic ch => exact q
  | outgrown => exact q
theorem O.slotv {a : Act} {N : Nat} {s : List (Nat × Value)} {t j : Nat} (k : Kn N s a) (h : lk s t = some (.int .i64 (j : Int))) : (intOf (a.tmps.getD t undef)).toNat = j := by
  have := k.has t _ h
  simp [Array.getD_eq_getD_getElem?, this, intOf]
theorem O.ret2 {P : Program} {N : Nat} {s : List (Nat × Value)} {w : World} {fn : Func} {R : Ending → World → Prop} {t u : Nat} {v v' : Value} (hr : fn.results = #[.tmp t, .tmp u]) (hv : lk s t = some v) (hv' : lk s u = some v') (h : R (.returned (.tuple #[v, v'])) w) : Xw .ret N (bodyPost P fn R) s w := fun a k => by
  refine ⟨k.defers, .tuple #[v, v'], ?_, h⟩
  rw [results_tmp2 hr]
  have h1 := k.has t v hv
  have h2 := k.has u v' hv'
  simp only [Array.getD_eq_getD_getElem?, h1, h2, Option.getD_some]
theorem O.retn {P : Program} {N : Nat} {s : List (Nat × Value)} {w : World} {fn : Func} {R : Ending → World → Prop} (hr : fn.results = #[]) (h : R (.returned (.tuple #[])) w) : Xw .ret N (bodyPost P fn R) s w := fun a k => ⟨k.defers, .tuple #[], results_none hr _ _ _, h⟩
theorem O.end0 {P : Program} {N : Nat} {s : List (Nat × Value)} {w : World} {fn : Func} {R : Ending → World → Prop} (hr : fn.results = #[]) (h : R (.returned (.tuple #[])) w) : Xw .normal N (bodyPost P fn R) s w := fun a k => bodyPost_end (results_none hr _ _ _) k.defers h
theorem Q.cv {P : Program} {C : World → Prop} {N : Nat} {s : List (Nat × Value)} {o : Oper} {t t2 : TypeId} {x : Operand} {u v : Value} (hop : o.op = .convert t t2 x) (h0 : ev s x = some u) (hr : ∀ w, C w → (convert t t2 u).run P w = .ok v w) : ∀ a, Kn N s a → ∀ w, C w → o.quietAt P a C w v := fun a k w hw => by
  refine quietAt_of ?_
  have k0 := k.eval h0
  unfold execOp
  rw [hop]
  simp only [k0, Sem.run_bind, hr w hw, Result.andThen_ok, Sem.run_pure]
theorem Q.fd {P : Program} {C : World → Prop} {N : Nat} {s : List (Nat × Value)} {o : Oper} {t : TypeId} {j : Nat} {x : Operand} {u v : Value} (hop : o.op = .field t x j) (h0 : ev s x = some u) (hr : ∀ w, C w → (Instr.field t u j).run P w = .ok v w) : ∀ a, Kn N s a → ∀ w, C w → o.quietAt P a C w v := fun a k w hw => by
  refine quietAt_of ?_
  have k0 := k.eval h0
  unfold execOp
  rw [hop]
  simp only [k0, Sem.run_bind, hr w hw, Result.andThen_ok, Sem.run_pure]
theorem Q.sl1 {P : Program} {C : World → Prop} {N : Nat} {s : List (Nat × Value)} {o : Oper} {t : TypeId} {x y : Operand} {u u2 v : Value} (hop : o.op = .slice t x (some y) none none) (h0 : ev s x = some u) (h1 : ev s y = some u2) (hr : ∀ w, C w → (Instr.sliceAt t u (some u2) none none).run P w = .ok v w) : ∀ a, Kn N s a → ∀ w, C w → o.quietAt P a C w v := fun a k w hw => by
  refine quietAt_of ?_
  have k0 := k.eval h0
  have k1 := k.eval h1
  unfold execOp
  rw [hop]
  simp only [Option.map_some, Option.map_none, k0, k1, Sem.run_bind, hr w hw, Result.andThen_ok, Sem.run_pure]
theorem Q.sl2 {P : Program} {C : World → Prop} {N : Nat} {s : List (Nat × Value)} {o : Oper} {t : TypeId} {x y : Operand} {u u2 v : Value} (hop : o.op = .slice t x none (some y) none) (h0 : ev s x = some u) (h1 : ev s y = some u2) (hr : ∀ w, C w → (Instr.sliceAt t u none (some u2) none).run P w = .ok v w) : ∀ a, Kn N s a → ∀ w, C w → o.quietAt P a C w v := fun a k w hw => by
  refine quietAt_of ?_
  have k0 := k.eval h0
  have k1 := k.eval h1
  unfold execOp
  rw [hop]
  simp only [Option.map_some, Option.map_none, k0, k1, Sem.run_bind, hr w hw, Result.andThen_ok, Sem.run_pure]
theorem Q.sl12 {P : Program} {C : World → Prop} {N : Nat} {s : List (Nat × Value)} {o : Oper} {t : TypeId} {x y z : Operand} {u u2 u3 v : Value} (hop : o.op = .slice t x (some y) (some z) none) (h0 : ev s x = some u) (h1 : ev s y = some u2) (h2 : ev s z = some u3) (hr : ∀ w, C w → (Instr.sliceAt t u (some u2) (some u3) none).run P w = .ok v w) : ∀ a, Kn N s a → ∀ w, C w → o.quietAt P a C w v := fun a k w hw => by
  refine quietAt_of ?_
  have k0 := k.eval h0
  have k1 := k.eval h1
  have k2 := k.eval h2
  unfold execOp
  rw [hop]
  simp only [Option.map_some, Option.map_none, k0, k1, k2, Sem.run_bind, hr w hw, Result.andThen_ok, Sem.run_pure]
theorem Q.bld {P : Program} {C : World → Prop} {N : Nat} {s : List (Nat × Value)} {o : Oper} {t : TypeId} {ps : Array (Nat × Operand)} {vs : Array (Nat × Value)} {v : Value} (hop : o.op = .build t ps) (hu : ps.toList.map (fun p => (p.1, ev s p.2)) = vs.toList.map (fun p => (p.1, some p.2))) (hr : ∀ w, C w → (Instr.build t vs).run P w = .ok v w) : ∀ a, Kn N s a → ∀ w, C w → o.quietAt P a C w v := fun a k w hw => by
  refine quietAt_of ?_
  have hm : ps.map (fun p => (p.1, a.eval p.2)) = vs := O.parts k hu
  unfold execOp
  rw [hop]
  simp only [hm, Sem.run_bind, hr w hw, Result.andThen_ok, Sem.run_pure]
theorem Q.ext {P : Program} {C : World → Prop} {N : Nat} {s : List (Nat × Value)} {o : Oper} {x : Operand} {j : Nat} {vs : Array Value} {v : Value} (hop : o.op = .extract x j) (hu : ev s x = some (.tuple vs)) (hv : vs[j]? = some v) : ∀ a, Kn N s a → ∀ w, C w → o.quietAt P a C w v := fun a k w hw => quietAt_of (RH.extract (S := fun _ => True) hop hu hv a k w trivial)
theorem Q.len {P : Program} {C : World → Prop} {N : Nat} {s : List (Nat × Value)} {o : Oper} {x : Operand} {t : TypeId} {u v : Value} (hop : o.op = .call ⟨.builtin .len, #[x], #[t]⟩) (hu : ev s x = some u) (hr : ∀ w, (Builtin.len_ #[t] o.type #[u]).run P w = .ok v w) : ∀ a, Kn N s a → ∀ w, C w → o.quietAt P a C w v := fun a k w hw => by
  have h1 := k.eval hu
  refine quietAt_of ?_
  unfold execOp
  rw [hop]
  generalize a.eval = e at *
  simp [go_sem, h1, hr]
/-- A region that draws its order, all of whose operations leave the world in a class. -/
theorem Q.sreg {P : Program} {N : Nat} {Q : Exit → Act → World → Prop} {s : List (Nat × Value)} {l : List Oper} {w : World} {y : Code} {id : Nat} {C : World → Prop} (hm : P.follows .mixedOrders = true) (hB : Region.lexB .any l.toArray = true) (hC : ∀ w, C w → C w.drew) (hw : C w) (h : W P l.toArray C N (fun a => ∀ w, C w → y.wp P Q a w) s l) : TW P N Q s (.seq (.region id l.toArray true) y) w :=
  TW.to C hw (T.seq (T.regD hm hB hC h))
theorem Q.reg {P : Program} {N : Nat} {Q : Exit → Act → World → Prop} {s : List (Nat × Value)} {l : List Oper} {w : World} {id : Nat} {C : World → Prop} (hm : P.follows .mixedOrders = true) (hB : Region.lexB .any l.toArray = true) (hC : ∀ w, C w → C w.drew) (hw : C w) (h : W P l.toArray C N (fun a => ∀ w, C w → Q .normal a w) s l) : TW P N Q s (.region id l.toArray true) w :=
  TW.to C hw (T.regD hm hB hC h)
theorem Q.nil {P : Program} {ops : Array Oper} {C : World → Prop} {N : Nat} {Q : Exit → Act → World → Prop} {s : List (Nat × Value)} {y : Code} (h : T P C N Q s y) : W P ops C N (fun a => ∀ w, C w → y.wp P Q a w) s [] := W.nil fun a k w hw => h a w k hw
theorem Q.end {P : Program} {ops : Array Oper} {C : World → Prop} {N : Nat} {Q : Exit → Act → World → Prop} {s : List (Nat × Value)} (h : ∀ w, C w → Xw .normal N Q s w) : W P ops C N (fun a => ∀ w, C w → Q .normal a w) s [] := W.nil fun a k w hw => h w hw a k
theorem Q.split {P : Program} {ops : Array Oper} {C : World → Prop} {N : Nat} {Q : Act → Prop} {s : List (Nat × Value)} {l : List Oper} {d : Nat} {b : Bool} (ht : b = true → W P ops C N Q ((d, .bool true) :: s) l) (hf : b = false → W P ops C N Q ((d, .bool false) :: s) l) : W P ops C N Q ((d, .bool b) :: s) l := by
  cases b
  · exact hf rfl
  · exact ht rfl
/-- A block of cells that may be written. -/
def Bx (w : World) (g : Nat) (z : Array Value) (t : TypeId) : Prop := w.heap[g]? = some (.cells z t (0, 0))
theorem Bx.fr {w w' : World} {g : Nat} {z : Array Value} {t : TypeId} {F : Nat → Prop} (h : Bx w g z t) (hf : Fr F w w') (hn : ¬F g) : Bx w' g z t := (hf.block g (Array.getElem?_eq_some_iff.1 h).1 hn).trans h
theorem Bx.cell {w : World} {g : Nat} {z : Array Value} {t : TypeId} (h : Bx w g z t) {j : Nat} {v : Value} (hv : z[j]? = some v) : w.cell? ⟨g, j, none⟩ = some v := by
  rw [cell_of_row _ _ _ z t (0, 0) h]; exact hv
theorem Bx.free {w : World} {g : Nat} {z : Array Value} {t : TypeId} (h : Bx w g z t) (j : Nat) : w.frozen? ⟨g, j, none⟩ = false := frozen_of_row w g j _ _ h
theorem Bx.set {w : World} {g : Nat} {z : Array Value} {t : TypeId} (h : Bx w g z t) (j : Nat) (v : Value) : Bx (w.setCell ⟨g, j, none⟩ v) g (z.setIfInBounds j v) t := heap_setCell_same w g j _ _ _ h
theorem Bx.lt {w : World} {g : Nat} {z : Array Value} {t : TypeId} (h : Bx w g z t) : g < w.heap.size := (Array.getElem?_eq_some_iff.1 h).1
theorem Bx.new (w : World) (z : Array Value) (t : TypeId) : Bx (w.alloc (.cells z t)) w.heap.size z t := heap_alloc_new w _
theorem Fr.lt {F : Nat → Prop} {w w' : World} (h : Fr F w w') {g : Nat} (hg : g < w.heap.size) : g < w'.heap.size := Nat.lt_of_lt_of_le hg h.size
theorem O.boxR {P : Program} {ops : Array Oper} {N : Nat} {Q : Exit → Act → World → Prop} {s : List (Nat × Value)} {l : List Oper} {o : Oper} {d : Nat} {w : World} {t : TypeId} {e : Operand} {u v : Value} {R : World → Prop} (hop : o.op = .box t e) (hd : o.dst = some d) (hN : Nat.blt d N = true) (hg : gd ops s o = some true) (hu : ev s e = some u) (hr : ∃ w', (Instr.box t u).run P w = .ok v w' ∧ R w') (h : ∀ w', R w' → WL P ops N Q ((d, v) :: s) l w') : WL P ops N Q s (o :: l) w := by
  obtain ⟨w', h1, h2⟩ := hr
  exact WL.box hop hd hN hg hu h1 (h w' h2)
theorem O.allocR {P : Program} {ops : Array Oper} {N : Nat} {Q : Exit → Act → World → Prop} {s : List (Nat × Value)} {l : List Oper} {o : Oper} {d : Nat} {w : World} {t : TypeId} {v : Value} {R : World → Prop} (hop : o.op = .alloc t) (hd : o.dst = some d) (hN : Nat.blt d N = true) (hg : gd ops s o = some true) (hr : ∃ w', (Instr.alloc t true (.tuple #[])).run P w = .ok v w' ∧ R w') (h : ∀ w', R w' → WL P ops N Q ((d, v) :: s) l w') : WL P ops N Q s (o :: l) w := by
  obtain ⟨w', h1, h2⟩ := hr
  exact WL.alloc hop hd hN hg h1 (h w' h2)
theorem O.storeR {P : Program} {ops : Array Oper} {N : Nat} {Q : Exit → Act → World → Prop} {s : List (Nat × Value)} {l : List Oper} {o : Oper} {w : World} {t : TypeId} {e x : Operand} {u v : Value} {R : World → Prop} (hop : o.op = .store t e x) (hd : o.dst = none) (hg : gd ops s o = some true) (hu : ev s e = some u) (hv : ev s x = some v) (hr : ∃ w', (Instr.storeAt t u v).run P w = .ok () w' ∧ R w') (h : ∀ w', R w' → WL P ops N Q s l w') : WL P ops N Q s (o :: l) w := by
  obtain ⟨w', h1, h2⟩ := hr
  exact WL.store hop hd hg hu hv h1 (h w' h2)
end Go.Proofs.Ythdkmjbeemfbbaa
