/-
  The walk over a frame of which some slots are known, once more: for functions that defer calls.
-/
import Derived.Defers
import Derived.Recover
import Derived.Test.YtcombjhkbjbncaaWt
namespace Go.Proofs.Ytcombjhkbjbncaa.D
open Go.RowKit
set_option linter.unusedVariables false
set_option linter.unusedSimpArgs false
/-- A frame's size, and its deferred calls. -/
structure ND where
  n : Nat
  ds : List Deferred := []
structure Kn (N : ND) (s : List (Nat × Value)) (a : Act) : Prop where
  size : a.tmps.size = N.n
  defers : a.defers = N.ds
  has : ∀ i v, lk s i = some v → a.tmps[i]? = some v
theorem Kn.eval {N : ND} {s : List (Nat × Value)} {a : Act} (h : Kn N s a) {x : Operand} {v : Value} (e : ev s x = some v) : a.eval x = v := by
  cases x with
  | tmp t =>
    have := h.has t v e
    simp only [Act.eval, Array.getD_eq_getD_getElem?, this, Option.getD_some]
  | const u => simpa [ev, Act.eval] using e
  | global g => simp only [ev, Option.some.injEq] at e; subst e; rfl
  | func f => simp only [ev, Option.some.injEq] at e; subst e; rfl
theorem Kn.put {N : ND} {s : List (Nat × Value)} {a : Act} (h : Kn N s a) {d : Nat} (hd : Nat.blt d N.n = true) (v : Value) : Kn N ((d, v) :: s) (a.put (some d) v) := by
  have hd' : d < N.n := by simpa [Nat.blt_eq] using hd
  refine ⟨by simp [Act.put, h.size], h.defers, fun i u e => ?_⟩
  simp only [lk] at e
  by_cases hdi : d = i
  · subst hdi
    rw [show Nat.beq d d = true from Nat.beq_refl d] at e
    simp only [Option.some.injEq] at e
    subst e
    simp [Act.put, h.size, hd']
  · rw [beq_no hdi] at e
    have := h.has i u e
    simpa [Act.put, Array.getElem?_setIfInBounds, hdi] using this
theorem Kn.base {N : ND} {s : List (Nat × Value)} {a : Act} (h : Kn N s a) : Kn N [] a := ⟨h.size, h.defers, fun i v e => by simp [lk] at e⟩
theorem Kn.cons {N : ND} {s t : List (Nat × Value)} {a : Act} (h : Kn N s a) {i : Nat} {v : Value} (e : lk s i = some v) (k : Kn N t a) : Kn N ((i, v) :: t) a := by
  refine ⟨h.size, h.defers, fun j u ej => ?_⟩
  simp only [lk] at ej
  by_cases hij : i = j
  · subst hij
    rw [show Nat.beq i i = true from Nat.beq_refl i] at ej
    simp only [Option.some.injEq] at ej
    subst ej
    exact h.has _ _ e
  · rw [beq_no hij] at ej
    exact k.has _ _ ej

theorem gd_wanted {ops : Array Oper} {N : ND} {s : List (Nat × Value)} {o : Oper} {a : Act} {b : Bool} (h : Kn N s a) (e : gd ops s o = some b) : Region.wanted o (yielded ops a.tmps) = b := by
  unfold gd at e
  unfold Region.wanted
  cases hg : o.guard with
  | none => rw [hg] at e; simpa using e
  | some q =>
    obtain ⟨i, p⟩ := q
    rw [hg] at e
    simp only at e ⊢
    unfold yielded
    cases hd : (ops[i]?).bind (·.dst) with
    | none => rw [hd] at e; simp at e
    | some d =>
      rw [hd] at e
      simp only [Option.bind_some] at e ⊢
      cases hl : lk s d with
      | none => rw [hl] at e; simp at e
      | some v =>
        rw [hl] at e
        rw [h.has d v hl]
        cases v <;> simp_all

def W (P : Program) (ops : Array Oper) (C : World → Prop) (N : ND) (Q : Act → Prop) (s : List (Nat × Value)) (l : List Oper) : Prop := ∀ a, Kn N s a → wpQuiet P ops C Q l a

section

variable {P : Program} {ops : Array Oper} {C : World → Prop} {N : ND} {Q : Act → Prop} {s : List (Nat × Value)} {l : List Oper} {o : Oper} {d : Nat}

theorem W.nil (h : ∀ a, Kn N s a → Q a) : W P ops C N Q s [] := fun a k => wpQuiet_nil (h a k)

theorem W.skip (hd : o.dst = some d) (hN : Nat.blt d N.n = true) (hg : gd ops s o = some false) (h : W P ops C N Q ((d, undef) :: s) l) : W P ops C N Q s (o :: l) := fun a k => by
  unfold wpQuiet
  rw [gd_wanted k hg, hd]
  exact h _ (k.put hN _)

theorem W.op {v : Value} (hd : o.dst = some d) (hN : Nat.blt d N.n = true) (hg : gd ops s o = some true) (hy : ∀ a, Kn N s a → ∀ w, C w → o.quietAt P a C w v) (h : W P ops C N Q ((d, v) :: s) l) : W P ops C N Q s (o :: l) := fun a k => by
  unfold wpQuiet
  rw [gd_wanted k hg, if_pos rfl]
  exact ⟨v, hy a k, by rw [hd]; exact h _ (k.put hN _)⟩

theorem W.quiet_move {x : Operand} {v : Value} (hop : o.op = .move x) (hv : ev s x = some v) : ∀ a, Kn N s a → ∀ w, C w → o.quietAt P a C w v := fun a k w _ => by
  unfold Oper.quietAt execOp; rw [hop]; exact ⟨rfl, k.eval hv⟩

theorem W.quiet_assign {x : Operand} {v : Value} (hop : o.op = .assign x) (hv : ev s x = some v) : ∀ a, Kn N s a → ∀ w, C w → o.quietAt P a C w v := fun a k w _ => by
  unfold Oper.quietAt execOp; rw [hop]; exact ⟨rfl, k.eval hv⟩

theorem W.quiet_pick {x y z : Operand} {b : Bool} {v : Value} (hop : o.op = .pick x y z) (hb : ev s x = some (.bool b)) (hv : ev s (if b then y else z) = some v) : ∀ a, Kn N s a → ∀ w, C w → o.quietAt P a C w v := fun a k w _ => by
  have h1 := k.eval hb
  have h2 := k.eval hv
  unfold Oper.quietAt execOp
  rw [hop]
  generalize a.eval = e at *
  cases b
  · simp only [Bool.false_eq_true, if_false] at h2
    simp [go_sem, Oper.quietUpon, h1, h2]
  · simp only [if_true] at h2
    simp [go_sem, Oper.quietUpon, h1, h2]

theorem W.quiet_field {t : TypeId} {x : Operand} {j : Nat} {u v : Value} (hop : o.op = .fieldAddr t x j) (hu : ev s x = some u) (hr : ∀ w, (Instr.fieldAt t u j).run P w = .ok v w) : ∀ a, Kn N s a → ∀ w, C w → o.quietAt P a C w v := fun a k w _ => by
  refine quietAt_of ?_
  unfold execOp
  rw [hop]
  simp only [k.eval hu, Sem.run_bind, hr, Result.andThen_ok, Sem.run_pure]

theorem W.quiet_load {t : TypeId} {x : Operand} {u v : Value} (hop : o.op = .load t x) (hu : ev s x = some u) (hr : ∀ w, C w → (Instr.loadAt t u).run P w = .ok v w) : ∀ a, Kn N s a → ∀ w, C w → o.quietAt P a C w v := fun a k w hw => by
  refine quietAt_of ?_
  unfold execOp
  rw [hop]
  simp only [k.eval hu, Sem.run_bind, hr w hw, Result.andThen_ok, Sem.run_pure]

theorem W.quiet_index {t : TypeId} {x y : Operand} {u i v : Value} (hop : o.op = .indexAddr t x y) (hu : ev s x = some u) (hi : ev s y = some i) (hr : ∀ w, (Instr.indexAt t u i).run P w = .ok v w) : ∀ a, Kn N s a → ∀ w, C w → o.quietAt P a C w v := fun a k w _ => by
  refine quietAt_of ?_
  unfold execOp
  rw [hop]
  simp only [k.eval hu, k.eval hi, Sem.run_bind, hr, Result.andThen_ok, Sem.run_pure]

theorem W.quiet_not {t : TypeId} {x : Operand} {b : Bool} (hop : o.op = .unOp .not t x) (hu : ev s x = some (.bool b)) : ∀ a, Kn N s a → ∀ w, C w → o.quietAt P a C w (.bool (!b)) := fun a k w _ => by
  refine quietAt_of ?_
  unfold execOp
  rw [hop]
  simp only [k.eval hu]
  simp [go_sem]

theorem W.quiet_bin {b : BinOp} {t r : TypeId} {x y : Operand} {u u' v : Value} (hop : o.op = .binOp b t x y r) (hu : ev s x = some u) (hu' : ev s y = some u') (hr : ∀ w, (do eqGuard b t x y u u'; binOp b t u u' : Sem Value).run P w = .ok v w) : ∀ a, Kn N s a → ∀ w, C w → o.quietAt P a C w v := fun a k w _ => by
  refine quietAt_of ?_
  unfold execOp
  rw [hop]
  have := hr w
  simp only [k.eval hu, k.eval hu', Sem.run_bind] at this ⊢
  rw [this]
  simp [go_sem]

theorem W.quiet_len {x : Operand} {t : TypeId} {g : Option Addr} {n c : Nat} (hop : o.op = .call ⟨.builtin .len, #[x], #[t]⟩) (hu : ev s x = some (.slice g n c)) (hr : ∀ w, (Builtin.len_ #[t] o.type #[.slice g n c]).run P w = .ok (.int .i64 n) w) : ∀ a, Kn N s a → ∀ w, C w → o.quietAt P a C w (.int .i64 n) := fun a k w _ => by
  have h1 := k.eval hu
  refine quietAt_of ?_
  unfold execOp
  rw [hop]
  generalize a.eval = e at *
  simp [go_sem, h1, hr]

theorem evs {a : Act} {xs : Array Operand} {vs : Array Value} (k : Kn N s a) (hu : xs.toList.map (ev s) = vs.toList.map some) : xs.map a.eval = vs := by
  apply Array.toList_inj.1
  rw [Array.toList_map]
  revert hu
  generalize xs.toList = l
  generalize vs.toList = m
  induction l generalizing m with
  | nil => intro hu; cases m <;> simp_all
  | cons x l ih =>
    intro hu
    cases m with
    | nil => simp at hu
    | cons y m =>
      simp only [List.map_cons, List.cons.injEq] at hu ⊢
      exact ⟨k.eval hu.1, ih m hu.2⟩

theorem W.quiet_call {f : Nat} {xs ts : Array _} {vs : Array Value} {v : Value} (hop : o.op = .call ⟨.value (.func f), xs, ts⟩) (hu : xs.toList.map (ev s) = vs.toList.map some) (hc : ∀ w, (callFunc f vs).run P w = .ok (.enter f vs) w) (hr : ∀ w, C w → Calls P f vs w fun e w' => e = .returned v ∧ C w') : ∀ a, Kn N s a → ∀ w, C w → o.quietAt P a C w v := fun a k w hw => by
  have hm := evs k hu
  have hf : a.eval (.func f) = .func (.func f) #[] #[] := rfl
  unfold Oper.quietAt execOp
  rw [hop]
  generalize a.eval = e at *
  simp [go_sem, hm, hf, Oper.quietUpon, hc]
  exact hr w hw

end

def T (P : Program) (C : World → Prop) (N : ND) (Q : Exit → Act → World → Prop) (s : List (Nat × Value)) (c : Code) : Prop := ∀ a w, Kn N s a → C w → c.wp P Q a w

section

variable {P : Program} {C : World → Prop} {N : ND} {Q : Exit → Act → World → Prop} {s : List (Nat × Value)} {l : List Oper} {x y : Code} {id : Nat}

theorem T.seq (h : T P C N (Exit.then (y.wp P Q) Q) s x) : T P C N Q s (.seq x y) := fun a w k hw => wp_seq (h a w k hw)

theorem T.skip (h : T P C N Q s y) : T P C N (Exit.then (y.wp P Q) Q) s .skip := fun a w k hw => wp_skip (h a w k hw)

theorem T.reg (h : W P l.toArray C N (fun a => ∀ w, C w → Q .normal a w) s l) : T P C N Q s (.region id l.toArray false) := fun a w k hw => wp_region_lit (wpList_of_quiet (fun a w hw q => q w hw) l a w hw (h a k))

theorem T.regD (hm : P.follows .mixedOrders = true) (hB : Region.lexB .any l.toArray = true) (hC : ∀ w, C w → C w.drew) (h : W P l.toArray C N (fun a => ∀ w, C w → Q .normal a w) s l) : T P C N Q s (.region id l.toArray true) := fun a w k hw => wp_region_quiet hm hB (hC w hw) (by simpa using h a k)

theorem T.sreg (s' : List (Nat × Value)) (h : W P l.toArray C N (Kn N s') s l) (k : T P C N Q s' y) : T P C N Q s (.seq (.region id l.toArray false) y) :=
  T.seq (T.reg fun a ka => wpQuiet_mono (fun b hb w hw => k b w hb hw) _ _ (h a ka))

theorem T.sregD (hm : P.follows .mixedOrders = true) (hB : Region.lexB .any l.toArray = true) (hC : ∀ w, C w → C w.drew) (s' : List (Nat × Value)) (h : W P l.toArray C N (Kn N s') s l) (k : T P C N Q s' y) : T P C N Q s (.seq (.region id l.toArray true) y) :=
  T.seq (T.regD hm hB hC fun a ka => wpQuiet_mono (fun b hb w hw => k b w hb hw) _ _ (h a ka))

theorem T.cond {c : Operand} {b : Bool} (hv : ev s c = some (.bool b)) (ht : b = true → T P C N Q s x) (hf : b = false → T P C N Q s y) : T P C N Q s (.cond c x y) := fun a w k hw => by
  refine wp_cond (k.eval hv) ?_
  cases b
  · exact hf rfl a w k hw
  · exact ht rfl a w k hw

def Xt (e : Exit) (C : World → Prop) (N : ND) (Q : Exit → Act → World → Prop) (s : List (Nat × Value)) : Prop := ∀ a w, Kn N s a → C w → Q e a w

abbrev Rt (C : World → Prop) (N : ND) (Q : Exit → Act → World → Prop) (s : List (Nat × Value)) : Prop := Xt .ret C N Q s

theorem Rt.thn {K : Act → World → Prop} (h : Xt .ret C N Q s) : Xt .ret C N (Exit.then K Q) s := h

theorem Rt.blk {id : Nat} (h : Xt .ret C N Q s) : Xt .ret C N (Exit.inBlock id Q) s := h

theorem Xt.thn {id : Nat} {K : Act → World → Prop} (h : Xt (.exit id) C N Q s) : Xt (.exit id) C N (Exit.then K Q) s := h

theorem Xt.hit (h : Xt .normal C N Q s) : Xt (.exit id) C N (Exit.inBlock id Q) s := fun a w k hw => by
  have := h a w k hw
  simpa [Exit.inBlock] using this

theorem Xt.miss {i : Nat} (hi : Nat.beq i id = false) (h : Xt (.exit i) C N Q s) : Xt (.exit i) C N (Exit.inBlock id Q) s := fun a w k hw => by
  have := h a w k hw
  have hne : ¬i = id := fun e => by rw [e, Nat.beq_refl] at hi; cases hi
  simpa [Exit.inBlock, hne] using this

theorem Xt.nblk (h : Xt .normal C N Q s) : Xt .normal C N (Exit.inBlock id Q) s := h

theorem Xt.nrm (h : T P C N Q s y) : Xt .normal C N (Exit.then (y.wp P Q) Q) s := h

theorem T.skipx (h : Xt .normal C N Q s) : T P C N Q s .skip := fun a w k hw => wp_skip (h a w k hw)

theorem T.exit (h : Xt (.exit id) C N Q s) : T P C N Q s (.exit id) := fun a w k hw => wp_exit (h a w k hw)

theorem T.block (h : T P C N (Exit.inBlock id Q) s x) : T P C N Q s (.block id x) := fun a w k hw => wp_block (h a w k hw)

theorem T.ret (h : Rt C N Q s) : T P C N Q s .ret := fun a w k hw => wp_ret (h a w k hw)

theorem T.sub {s' : List (Nat × Value)} (h : T P C N Q s' x) (hs : ∀ a, Kn N s a → Kn N s' a) : T P C N Q s x := fun a w k hw => h a w (hs a k) hw

end

def WL (P : Program) (ops : Array Oper) (N : ND) (Q : Exit → Act → World → Prop) (s : List (Nat × Value)) (l : List Oper) (w : World) : Prop := ∀ a, Kn N s a → wpList P ops Q l a w

def TW (P : Program) (N : ND) (Q : Exit → Act → World → Prop) (s : List (Nat × Value)) (c : Code) (w : World) : Prop := ∀ a, Kn N s a → c.wp P Q a w

section

variable {P : Program} {ops : Array Oper} {N : ND} {Q : Exit → Act → World → Prop} {s : List (Nat × Value)} {l : List Oper} {o : Oper} {d : Nat} {w : World} {x y : Code} {id : Nat}

theorem WL.nil (h : TW P N Q s y w) : WL P ops N (Exit.then (y.wp P Q) Q) s [] w := fun a k => wpList_nil (h a k)

theorem WL.done (h : ∀ a, Kn N s a → Q .normal a w) : WL P ops N Q s [] w := fun a k => wpList_nil (h a k)

theorem WL.skip (hd : o.dst = some d) (hN : Nat.blt d N.n = true) (hg : gd ops s o = some false) (h : WL P ops N Q ((d, undef) :: s) l w) : WL P ops N Q s (o :: l) w := fun a k => by
  unfold wpList
  rw [gd_wanted k hg, hd]
  exact h _ (k.put hN _)

theorem WL.op {v : Value} (hd : o.dst = some d) (hN : Nat.blt d N.n = true) (hg : gd ops s o = some true) (hy : ∀ a, Kn N s a → ∀ W, W = w → o.quietAt P a (fun W => W = w) W v) (h : WL P ops N Q ((d, v) :: s) l w) : WL P ops N Q s (o :: l) w := fun a k => by
  unfold wpList
  rw [gd_wanted k hg, if_pos rfl]
  exact .inl (Oper.wp_of_quiet (C := fun W => W = w) (K := wpQuiet P ops (fun W => W = w) (fun b => wpList P ops Q l b w) []) rfl (fun b W hW q => by rw [hW]; exact q) ⟨v, hy a k, by rw [hd]; exact h _ (k.put hN _)⟩)

theorem WL.run {v : Value} {w' : World} (hd : o.dst = some d) (hN : Nat.blt d N.n = true) (hg : gd ops s o = some true) (hr : ∀ a, Kn N s a → (execOp a.eval o).run P w = .ok (.value v) w') (h : WL P ops N Q ((d, v) :: s) l w') : WL P ops N Q s (o :: l) w := fun a k => by
  unfold wpList
  rw [gd_wanted k hg, if_pos rfl]
  refine .inl ?_
  unfold Oper.wp
  rw [hr a k]
  unfold Oper.upon
  rw [hd]
  exact h _ (k.put hN _)

theorem WL.box {t : TypeId} {e : Operand} {u v : Value} {w' : World} (hop : o.op = .box t e) (hd : o.dst = some d) (hN : Nat.blt d N.n = true) (hg : gd ops s o = some true) (hu : ev s e = some u) (hr : (Instr.box t u).run P w = .ok v w') (h : WL P ops N Q ((d, v) :: s) l w') : WL P ops N Q s (o :: l) w :=
  WL.run hd hN hg (fun a k => by
    have h1 := k.eval hu
    unfold execOp
    rw [hop]
    simp only [h1, Sem.run_bind, hr, Result.andThen_ok, Sem.run_pure]) h

theorem WL.alloc {t : TypeId} {v : Value} {w' : World} (hop : o.op = .alloc t) (hd : o.dst = some d) (hN : Nat.blt d N.n = true) (hg : gd ops s o = some true) (hr : (Instr.alloc t true (.tuple #[])).run P w = .ok v w') (h : WL P ops N Q ((d, v) :: s) l w') : WL P ops N Q s (o :: l) w :=
  WL.run hd hN hg (fun a k => by
    unfold execOp
    rw [hop]
    simp only [Sem.run_bind, hr, Result.andThen_ok, Sem.run_pure]) h

theorem WL.store {t : TypeId} {e x : Operand} {u v : Value} {w' : World} (hop : o.op = .store t e x) (hd : o.dst = none) (hg : gd ops s o = some true) (hu : ev s e = some u) (hv : ev s x = some v) (hr : (Instr.storeAt t u v).run P w = .ok () w') (h : WL P ops N Q s l w') : WL P ops N Q s (o :: l) w := fun a k => by
  have h1 := k.eval hu
  have h2 := k.eval hv
  unfold wpList
  rw [gd_wanted k hg, if_pos rfl]
  refine .inl ?_
  unfold Oper.wp execOp
  rw [hop]
  simp only [h1, h2, Sem.run_bind, hr, Result.andThen_ok, Sem.run_pure]
  unfold Oper.upon
  rw [hd]
  exact h a k

theorem WL.call {f : Nat} {xs ts : Array _} {vs : Array Value} {R : Ending → World → Prop} (hop : o.op = .call ⟨.value (.func f), xs, ts⟩) (hd : o.dst = some d) (hN : Nat.blt d N.n = true) (hg : gd ops s o = some true) (hu : xs.toList.map (ev s) = vs.toList.map some) (hc : ∀ w, (callFunc f vs).run P w = .ok (.enter f vs) w) (hr : Calls P f vs w R) (h : ∀ e w', R e w' → ∃ v, e = .returned v ∧ WL P ops N Q ((d, v) :: s) l w') : WL P ops N Q s (o :: l) w := fun a k => by
  have hm := evs k hu
  have hf : a.eval (.func f) = .func (.func f) #[] #[] := rfl
  unfold wpList
  rw [gd_wanted k hg, if_pos rfl]
  refine .inl ?_
  unfold Oper.wp
  have he : (execOp a.eval o).run P w = .ok (.enter f vs) w := by
    unfold execOp
    rw [hop]
    generalize a.eval = e at *
    simp [go_sem, hm, hf, hc]
  rw [he]
  unfold Oper.upon
  refine hr.mono fun e w' q => ?_
  obtain ⟨v, rfl, hv⟩ := h e w' q
  rw [hd]
  exact hv _ (k.put hN _)

theorem WL.gen {v : Value} {w' : World} (hd : o.dst = some d) (hN : Nat.blt d N.n = true) (hg : gd ops s o = some true) (hr : ∀ e : Operand → Value, (∀ x v, ev s x = some v → e x = v) → (∀ f, e (.func f) = .func (.func f) #[] #[]) → (execOp e o).run P w = .ok (.value v) w') (h : WL P ops N Q ((d, v) :: s) l w') : WL P ops N Q s (o :: l) w :=
  WL.run hd hN hg (fun a k => hr a.eval (fun x v q => k.eval q) (fun _ => rfl)) h

theorem WL.make {t : TypeId} {x y : Operand} {u u' v : Value} {w' : World} (hop : o.op = .makeSlice t x y) (hd : o.dst = some d) (hN : Nat.blt d N.n = true) (hg : gd ops s o = some true) (hu : ev s x = some u) (hv : ev s y = some u') (hr : (Instr.makeSlice t u u').run P w = .ok v w') (h : WL P ops N Q ((d, v) :: s) l w') : WL P ops N Q s (o :: l) w :=
  WL.run hd hN hg (fun a k => by
    have h1 := k.eval hu
    have h2 := k.eval hv
    unfold execOp
    rw [hop]
    simp only [h1, h2, Sem.run_bind, hr, Result.andThen_ok, Sem.run_pure]) h

theorem WL.append {x y : Operand} {t t' : TypeId} {u v : Value} {R : Value → World → Prop} (hop : o.op = .call { callee := .builtin .append, args := #[x, y], argTypes := #[t, t'] }) (hd : o.dst = some d) (hN : Nat.blt d N.n = true) (hg : gd ops s o = some true) (hu : ev s x = some u) (hv : ev s y = some v) (hr : ∃ v' w', (Builtin.append_ #[t, t'] o.type #[u, v]).run P w = .ok v' w' ∧ R v' w') (h : ∀ v' w', R v' w' → WL P ops N Q ((d, v') :: s) l w') : WL P ops N Q s (o :: l) w := fun a k => by
  have h1 := k.eval hu
  have h2 := k.eval hv
  obtain ⟨v', w', hq, hR⟩ := hr
  unfold wpList
  rw [gd_wanted k hg, if_pos rfl]
  refine .inl ?_
  unfold Oper.wp execOp
  simp only [hop, resolve, invoke, builtin, Sem.run_bind, Sem.run_pure, Result.andThen_ok, List.map_toArray, List.map_cons, List.map_nil, h1, h2, hq]
  unfold Oper.upon
  rw [hd]
  exact h v' w' hR _ (k.put hN _)

theorem TW.seq (h : TW P N (Exit.then (y.wp P Q) Q) s x w) : TW P N Q s (.seq x y) w := fun a k => wp_seq (h a k)

theorem TW.sreg (h : WL P l.toArray N (Exit.then (y.wp P Q) Q) s l w) : TW P N Q s (.seq (.region id l.toArray false) y) w :=
  TW.seq fun a k => wp_region_lit (h a k)

theorem TW.reg (h : WL P l.toArray N Q s l w) : TW P N Q s (.region id l.toArray false) w := fun a k => wp_region_lit (h a k)

theorem TW.to (C : World → Prop) (hC : C w) (h : T P C N Q s y) : TW P N Q s y w := fun a k => h a w k hC

theorem TW.skip (h : TW P N Q s y w) : TW P N (Exit.then (y.wp P Q) Q) s .skip w := fun a k => wp_skip (h a k)

theorem TW.cond {c : Operand} {b : Bool} (hv : ev s c = some (.bool b)) (ht : b = true → TW P N Q s x w) (hf : b = false → TW P N Q s y w) : TW P N Q s (.cond c x y) w := fun a k => by
  refine wp_cond (k.eval hv) ?_
  cases b
  · exact hf rfl a k
  · exact ht rfl a k

theorem TW.app {a : Act} (h : TW P N Q s x w) (k : Kn N s a) : x.wp P Q a w := h a k

theorem T.tw {C : World → Prop} (h : ∀ w, C w → TW P N Q s x w) : T P C N Q s x := fun a w k hw => h w hw a k

theorem TW.block (h : TW P N (Exit.inBlock id Q) s x w) : TW P N Q s (.block id x) w := fun a k => wp_block (h a k)

def Xw (e : Exit) (N : ND) (Q : Exit → Act → World → Prop) (s : List (Nat × Value)) (w : World) : Prop := ∀ a, Kn N s a → Q e a w

theorem Xw.thn {e : Exit} {K : Act → World → Prop} (he : e ≠ .normal) (h : Xw e N Q s w) : Xw e N (Exit.then K Q) s w := fun a k => by
  have := h a k
  cases e <;> first | exact this | exact absurd rfl he

theorem Xw.rblk (h : Xw .ret N Q s w) : Xw .ret N (Exit.inBlock id Q) s w := h

theorem Xw.hit (h : Xw .normal N Q s w) : Xw (.exit id) N (Exit.inBlock id Q) s w := fun a k => by
  have := h a k
  simpa [Exit.inBlock] using this

theorem Xw.nblk (h : Xw .normal N Q s w) : Xw .normal N (Exit.inBlock id Q) s w := h

theorem Xw.nrm (h : TW P N Q s y w) : Xw .normal N (Exit.then (y.wp P Q) Q) s w := h

theorem Xw.any {K : Act → World → Prop} (h : ∀ a, Kn N s a → K a w) : Xw .normal N (Exit.then K Q) s w := h

theorem TW.rt (h : Xw .ret N Q s w) : TW P N Q s .ret w := fun a k => wp_ret (h a k)

theorem TW.skipx (h : Xw .normal N Q s w) : TW P N Q s .skip w := fun a k => wp_skip (h a k)

theorem TW.exit (h : Xw (.exit id) N Q s w) : TW P N Q s (.exit id) w := fun a k => wp_exit (h a k)

theorem WL.end (h : Xw .normal N Q s w) : WL P ops N Q s [] w := fun a k => wpList_nil (h a k)

theorem WL.ld {t : TypeId} {e : Operand} {u v : Value} (hop : o.op = .load t e) (hd : o.dst = some d) (hN : Nat.blt d N.n = true) (hg : gd ops s o = some true) (hu : ev s e = some u) (hr : (Instr.loadAt t u).run P w = .ok v w) (h : WL P ops N Q ((d, v) :: s) l w) : WL P ops N Q s (o :: l) w :=
  WL.run hd hN hg (fun a k => by
    have h1 := k.eval hu
    unfold execOp
    rw [hop]
    simp only [h1, Sem.run_bind, hr, Result.andThen_ok, Sem.run_pure]) h

theorem WL.bslice {t : TypeId} {e : Operand} {m : Nat} {u v : Value} {w' : World} (hop : o.op = .buildSlice t m #[(0, e)]) (hd : o.dst = some d) (hN : Nat.blt d N.n = true) (hg : gd ops s o = some true) (hu : ev s e = some u) (hr : (Instr.buildSlice t m #[(0, u)]).run P w = .ok v w') (h : WL P ops N Q ((d, v) :: s) l w') : WL P ops N Q s (o :: l) w :=
  WL.run hd hN hg (fun a k => by
    have h1 := k.eval hu
    unfold execOp
    rw [hop]
    simp only [List.map_toArray, List.map_cons, List.map_nil, h1, Sem.run_bind, hr, Result.andThen_ok, Sem.run_pure]) h

end

def WH (P : Program) (ops : Array Oper) (S : World → Prop) (N : ND) (Q : Exit → Act → World → Prop) (fuel : Nat) (listed : Array Bool) (s : List (Nat × Value)) (w : World) : Prop := ∀ a, Kn N s a → wpAnyH P .any ops Q S fuel listed a w

section

variable {P : Program} {ops : Array Oper} {S : World → Prop} {N : ND} {Q : Exit → Act → World → Prop} {s : List (Nat × Value)} {l : List Oper} {o o' : Oper} {d i i' fuel : Nat} {listed : Array Bool} {w : World} {y : Code} {id : Nat}

theorem TW.sregH (S : World → Prop) (hm : P.follows .mixedOrders = true) (h : WH P l.toArray S N (Exit.then (y.wp P Q) Q) l.toArray.size (Array.replicate l.toArray.size false) s w.drew) : TW P N Q s (.seq (.region id l.toArray true) y) w := TW.seq fun a k => wp_region_held hm (h a k)

theorem TW.regH (S : World → Prop) (hm : P.follows .mixedOrders = true) (h : WH P l.toArray S N Q l.toArray.size (Array.replicate l.toArray.size false) s w.drew) : TW P N Q s (.region id l.toArray true) w := fun a k => wp_region_held hm (h a k)

theorem WH.take {v : Value} (i : Nat) (hi : ops[i]? = some o) (hsel : Region.noSelect ops = true) (hf : Region.free .any ops listed i = true) (hr : (Region.ready .any ops listed).contains i = true) (hQ : ∀ c a (d : Nat) v w, Q (.panic c) (a.put (some d) v) w → Q (.panic c) a w) (hd : o.dst = some d) (hN : Nat.blt d N.n = true) (hg : gd ops s o = some true) (hS : S w)
    (hy : ∀ a, Kn N s a → ∀ w, S w → (execOp a.eval o).run P w = .ok (.value v) w) (h : WH P ops S N Q fuel (listed.setIfInBounds i true) ((d, v) :: s) w) : WH P ops S N Q (fuel + 1) listed s w := fun a k =>
  wpAnyH_take hi hsel hf hr (fun c a2 w h => hQ c a2 d _ w (by rw [hd] at h; exact h)) (.inl ⟨gd_wanted k hg, hy a k⟩) hS (by rw [hd]; exact h _ (k.put hN _))

theorem WH.one (i : Nat) (hr : Region.ready .any ops listed = [i]) (hi : ops[i]? = some o) (h : WL P ops N (Go1 P ops S Q fuel (listed.setIfInBounds i true)) s [o] w) : WH P ops S N Q (fuel + 1) listed s w := fun a k =>
  wpAnyH_all hr (by simp) (fun j hj => by
    have : j = i := by simpa using hj
    subst this
    exact wpOp_of_list hi (h a k))

theorem WH.two (i i' : Nat) (hr : Region.ready .any ops listed = [i, i']) (hi : ops[i]? = some o) (hi' : ops[i']? = some o') (h : WL P ops N (Go1 P ops S Q fuel (listed.setIfInBounds i true)) s [o] w) (h' : WL P ops N (Go1 P ops S Q fuel (listed.setIfInBounds i' true)) s [o'] w) : WH P ops S N Q (fuel + 1) listed s w := fun a k =>
  wpAnyH_all hr (by simp) (fun j hj => by
    have : j = i ∨ j = i' := by simpa using hj
    rcases this with e | e
    · subst e; exact wpOp_of_list hi (h a k)
    · subst e; exact wpOp_of_list hi' (h' a k))

theorem WL.fin (hS : S w) (h : WH P ops S N Q fuel listed s w) : WL P ops N (Go1 P ops S Q fuel listed) s [] w := fun a k => wpList_nil ⟨hS, h a k⟩

theorem WH.done (hr : Region.ready .any ops listed = []) (h : TW P N Q s y w) : WH P ops S N (Exit.then (y.wp P Q) Q) fuel listed s w := fun a k => wpAnyH_done hr (h a k) _

theorem WH.end (hr : Region.ready .any ops listed = []) (h : Xw .normal N Q s w) : WH P ops S N Q fuel listed s w := fun a k => wpAnyH_done hr (h a k) _

theorem RH.move {x : Operand} {v : Value} (hop : o.op = .move x) (hv : ev s x = some v) : ∀ a, Kn N s a → ∀ w, S w → (execOp a.eval o).run P w = .ok (.value v) w := fun a k w _ => by
  unfold execOp
  rw [hop]
  have := k.eval hv
  generalize a.eval = e at *
  simp [go_sem, this]

theorem RH.assign {x : Operand} {v : Value} (hop : o.op = .assign x) (hv : ev s x = some v) : ∀ a, Kn N s a → ∀ w, S w → (execOp a.eval o).run P w = .ok (.value v) w := fun a k w _ => by
  unfold execOp
  rw [hop]
  have := k.eval hv
  generalize a.eval = e at *
  simp [go_sem, this]

theorem RH.field {t : TypeId} {x : Operand} {j : Nat} {u v : Value} (hop : o.op = .fieldAddr t x j) (hu : ev s x = some u) (hr : ∀ w, (Instr.fieldAt t u j).run P w = .ok v w) : ∀ a, Kn N s a → ∀ w, S w → (execOp a.eval o).run P w = .ok (.value v) w := fun a k w _ => by
  unfold execOp
  rw [hop]
  simp only [k.eval hu, Sem.run_bind, hr, Result.andThen_ok, Sem.run_pure]

theorem RH.load {t : TypeId} {x : Operand} {u v : Value} (hop : o.op = .load t x) (hu : ev s x = some u) (hr : ∀ w, S w → (Instr.loadAt t u).run P w = .ok v w) : ∀ a, Kn N s a → ∀ w, S w → (execOp a.eval o).run P w = .ok (.value v) w := fun a k w hw => by
  unfold execOp
  rw [hop]
  simp only [k.eval hu, Sem.run_bind, hr w hw, Result.andThen_ok, Sem.run_pure]

theorem RH.index {t : TypeId} {x y : Operand} {u i v : Value} (hop : o.op = .indexAddr t x y) (hu : ev s x = some u) (hi : ev s y = some i) (hr : ∀ w, (Instr.indexAt t u i).run P w = .ok v w) : ∀ a, Kn N s a → ∀ w, S w → (execOp a.eval o).run P w = .ok (.value v) w := fun a k w _ => by
  unfold execOp
  rw [hop]
  simp only [k.eval hu, k.eval hi, Sem.run_bind, hr, Result.andThen_ok, Sem.run_pure]

theorem RH.extract {x : Operand} {j : Nat} {vs : Array Value} {v : Value} (hop : o.op = .extract x j) (hu : ev s x = some (.tuple vs)) (hv : vs[j]? = some v) : ∀ a, Kn N s a → ∀ w, S w → (execOp a.eval o).run P w = .ok (.value v) w := fun a k w _ => by
  have h1 := k.eval hu
  unfold execOp
  rw [hop]
  generalize a.eval = e at *
  simp [go_sem, h1, hv]

end

theorem O.cv {P : Program} {ops : Array Oper} {N : ND} {Q : Exit → Act → World → Prop} {s : List (Nat × Value)} {l : List Oper} {o : Oper} {d : Nat} {w w' : World} {t t2 : TypeId} {x : Operand} {u v : Value} (hop : o.op = .convert t t2 x) (hd : o.dst = some d) (hN : Nat.blt d N.n = true) (hg : gd ops s o = some true) (h0 : ev s x = some u) (hr : (convert t t2 u).run P w = .ok v w') (h : WL P ops N Q ((d, v) :: s) l w') : WL P ops N Q s (o :: l) w :=
  WL.run hd hN hg (fun a k => by
    have k0 := k.eval h0
    unfold execOp
    rw [hop]
    simp only [k0, Sem.run_bind, hr, Result.andThen_ok, Sem.run_pure]) h

theorem O.ix {P : Program} {ops : Array Oper} {N : ND} {Q : Exit → Act → World → Prop} {s : List (Nat × Value)} {l : List Oper} {o : Oper} {d : Nat} {w w' : World} {t : TypeId} {x y : Operand} {u u2 v : Value} (hop : o.op = .index t x y) (hd : o.dst = some d) (hN : Nat.blt d N.n = true) (hg : gd ops s o = some true) (h0 : ev s x = some u) (h1 : ev s y = some u2) (hr : (Instr.index t u u2).run P w = .ok v w') (h : WL P ops N Q ((d, v) :: s) l w') : WL P ops N Q s (o :: l) w :=
  WL.run hd hN hg (fun a k => by
    have k0 := k.eval h0
    have k1 := k.eval h1
    unfold execOp
    rw [hop]
    simp only [k0, k1, Sem.run_bind, hr, Result.andThen_ok, Sem.run_pure]) h

theorem O.ixa {P : Program} {ops : Array Oper} {N : ND} {Q : Exit → Act → World → Prop} {s : List (Nat × Value)} {l : List Oper} {o : Oper} {d : Nat} {w w' : World} {t : TypeId} {x y : Operand} {u u2 v : Value} (hop : o.op = .indexAddr t x y) (hd : o.dst = some d) (hN : Nat.blt d N.n = true) (hg : gd ops s o = some true) (h0 : ev s x = some u) (h1 : ev s y = some u2) (hr : (Instr.indexAt t u u2).run P w = .ok v w') (h : WL P ops N Q ((d, v) :: s) l w') : WL P ops N Q s (o :: l) w :=
  WL.run hd hN hg (fun a k => by
    have k0 := k.eval h0
    have k1 := k.eval h1
    unfold execOp
    rw [hop]
    simp only [k0, k1, Sem.run_bind, hr, Result.andThen_ok, Sem.run_pure]) h

theorem O.fa {P : Program} {ops : Array Oper} {N : ND} {Q : Exit → Act → World → Prop} {s : List (Nat × Value)} {l : List Oper} {o : Oper} {d : Nat} {w w' : World} {t : TypeId} {j : Nat} {x : Operand} {u v : Value} (hop : o.op = .fieldAddr t x j) (hd : o.dst = some d) (hN : Nat.blt d N.n = true) (hg : gd ops s o = some true) (h0 : ev s x = some u) (hr : (Instr.fieldAt t u j).run P w = .ok v w') (h : WL P ops N Q ((d, v) :: s) l w') : WL P ops N Q s (o :: l) w :=
  WL.run hd hN hg (fun a k => by
    have k0 := k.eval h0
    unfold execOp
    rw [hop]
    simp only [k0, Sem.run_bind, hr, Result.andThen_ok, Sem.run_pure]) h

theorem O.fd {P : Program} {ops : Array Oper} {N : ND} {Q : Exit → Act → World → Prop} {s : List (Nat × Value)} {l : List Oper} {o : Oper} {d : Nat} {w w' : World} {t : TypeId} {j : Nat} {x : Operand} {u v : Value} (hop : o.op = .field t x j) (hd : o.dst = some d) (hN : Nat.blt d N.n = true) (hg : gd ops s o = some true) (h0 : ev s x = some u) (hr : (Instr.field t u j).run P w = .ok v w') (h : WL P ops N Q ((d, v) :: s) l w') : WL P ops N Q s (o :: l) w :=
  WL.run hd hN hg (fun a k => by
    have k0 := k.eval h0
    unfold execOp
    rw [hop]
    simp only [k0, Sem.run_bind, hr, Result.andThen_ok, Sem.run_pure]) h

theorem O.un {P : Program} {ops : Array Oper} {N : ND} {Q : Exit → Act → World → Prop} {s : List (Nat × Value)} {l : List Oper} {o : Oper} {d : Nat} {w w' : World} {b : UnOp} {t : TypeId} {x : Operand} {u v : Value} (hop : o.op = .unOp b t x) (hd : o.dst = some d) (hN : Nat.blt d N.n = true) (hg : gd ops s o = some true) (h0 : ev s x = some u) (hr : ((Op.unary b u : Sem Value)).run P w = .ok v w') (h : WL P ops N Q ((d, v) :: s) l w') : WL P ops N Q s (o :: l) w :=
  WL.run hd hN hg (fun a k => by
    have k0 := k.eval h0
    unfold execOp
    rw [hop]
    simp only [k0, Sem.run_bind, hr, Result.andThen_ok, Sem.run_pure]) h

theorem O.mi {P : Program} {ops : Array Oper} {N : ND} {Q : Exit → Act → World → Prop} {s : List (Nat × Value)} {l : List Oper} {o : Oper} {d : Nat} {w w' : World} {t : TypeId} {x : Operand} {u v : Value} (hop : o.op = .makeInterface t x) (hd : o.dst = some d) (hN : Nat.blt d N.n = true) (hg : gd ops s o = some true) (h0 : ev s x = some u) (hr : (Instr.makeInterface t u).run P w = .ok v w') (h : WL P ops N Q ((d, v) :: s) l w') : WL P ops N Q s (o :: l) w :=
  WL.run hd hN hg (fun a k => by
    have k0 := k.eval h0
    unfold execOp
    rw [hop]
    simp only [k0, Sem.run_bind, hr, Result.andThen_ok, Sem.run_pure]) h

theorem O.rg {P : Program} {ops : Array Oper} {N : ND} {Q : Exit → Act → World → Prop} {s : List (Nat × Value)} {l : List Oper} {o : Oper} {d : Nat} {w w' : World} {t : TypeId} {x : Operand} {u v : Value} (hop : o.op = .range t x) (hd : o.dst = some d) (hN : Nat.blt d N.n = true) (hg : gd ops s o = some true) (h0 : ev s x = some u) (hr : (Instr.range t u).run P w = .ok v w') (h : WL P ops N Q ((d, v) :: s) l w') : WL P ops N Q s (o :: l) w :=
  WL.run hd hN hg (fun a k => by
    have k0 := k.eval h0
    unfold execOp
    rw [hop]
    simp only [k0, Sem.run_bind, hr, Result.andThen_ok, Sem.run_pure]) h

theorem O.ta {P : Program} {ops : Array Oper} {N : ND} {Q : Exit → Act → World → Prop} {s : List (Nat × Value)} {l : List Oper} {o : Oper} {d : Nat} {w w' : World} {t t2 : TypeId} {c : Bool} {x : Operand} {u v : Value} (hop : o.op = .typeAssert x t t2 c) (hd : o.dst = some d) (hN : Nat.blt d N.n = true) (hg : gd ops s o = some true) (h0 : ev s x = some u) (hr : (Instr.typeAssert u t t2 c).run P w = .ok v w') (h : WL P ops N Q ((d, v) :: s) l w') : WL P ops N Q s (o :: l) w :=
  WL.run hd hN hg (fun a k => by
    have k0 := k.eval h0
    unfold execOp
    rw [hop]
    simp only [k0, Sem.run_bind, hr, Result.andThen_ok, Sem.run_pure]) h

theorem O.lu {P : Program} {ops : Array Oper} {N : ND} {Q : Exit → Act → World → Prop} {s : List (Nat × Value)} {l : List Oper} {o : Oper} {d : Nat} {w w' : World} {t : TypeId} {c : Bool} {x y : Operand} {u u2 v : Value} (hop : o.op = .lookup t x y c) (hd : o.dst = some d) (hN : Nat.blt d N.n = true) (hg : gd ops s o = some true) (h0 : ev s x = some u) (h1 : ev s y = some u2) (hr : (Instr.lookup t u u2 c).run P w = .ok v w') (h : WL P ops N Q ((d, v) :: s) l w') : WL P ops N Q s (o :: l) w :=
  WL.run hd hN hg (fun a k => by
    have k0 := k.eval h0
    have k1 := k.eval h1
    unfold execOp
    rw [hop]
    simp only [k0, k1, Sem.run_bind, hr, Result.andThen_ok, Sem.run_pure]) h

theorem O.mk {P : Program} {ops : Array Oper} {N : ND} {Q : Exit → Act → World → Prop} {s : List (Nat × Value)} {l : List Oper} {o : Oper} {d : Nat} {w w' : World} {t : TypeId} {x y : Operand} {u u2 v : Value} (hop : o.op = .makeSlice t x y) (hd : o.dst = some d) (hN : Nat.blt d N.n = true) (hg : gd ops s o = some true) (h0 : ev s x = some u) (h1 : ev s y = some u2) (hr : (Instr.makeSlice t u u2).run P w = .ok v w') (h : WL P ops N Q ((d, v) :: s) l w') : WL P ops N Q s (o :: l) w :=
  WL.run hd hN hg (fun a k => by
    have k0 := k.eval h0
    have k1 := k.eval h1
    unfold execOp
    rw [hop]
    simp only [k0, k1, Sem.run_bind, hr, Result.andThen_ok, Sem.run_pure]) h

theorem O.sl1 {P : Program} {ops : Array Oper} {N : ND} {Q : Exit → Act → World → Prop} {s : List (Nat × Value)} {l : List Oper} {o : Oper} {d : Nat} {w w' : World} {t : TypeId} {x y : Operand} {u u2 v : Value} (hop : o.op = .slice t x (some y) none none) (hd : o.dst = some d) (hN : Nat.blt d N.n = true) (hg : gd ops s o = some true) (h0 : ev s x = some u) (h1 : ev s y = some u2) (hr : (Instr.sliceAt t u (some u2) none none).run P w = .ok v w') (h : WL P ops N Q ((d, v) :: s) l w') : WL P ops N Q s (o :: l) w :=
  WL.run hd hN hg (fun a k => by
    have k0 := k.eval h0
    have k1 := k.eval h1
    unfold execOp
    rw [hop]
    simp only [Option.map_some, Option.map_none, k0, k1, Sem.run_bind, hr, Result.andThen_ok, Sem.run_pure]) h

theorem O.sl2 {P : Program} {ops : Array Oper} {N : ND} {Q : Exit → Act → World → Prop} {s : List (Nat × Value)} {l : List Oper} {o : Oper} {d : Nat} {w w' : World} {t : TypeId} {x y : Operand} {u u2 v : Value} (hop : o.op = .slice t x none (some y) none) (hd : o.dst = some d) (hN : Nat.blt d N.n = true) (hg : gd ops s o = some true) (h0 : ev s x = some u) (h1 : ev s y = some u2) (hr : (Instr.sliceAt t u none (some u2) none).run P w = .ok v w') (h : WL P ops N Q ((d, v) :: s) l w') : WL P ops N Q s (o :: l) w :=
  WL.run hd hN hg (fun a k => by
    have k0 := k.eval h0
    have k1 := k.eval h1
    unfold execOp
    rw [hop]
    simp only [Option.map_some, Option.map_none, k0, k1, Sem.run_bind, hr, Result.andThen_ok, Sem.run_pure]) h

theorem O.sl12 {P : Program} {ops : Array Oper} {N : ND} {Q : Exit → Act → World → Prop} {s : List (Nat × Value)} {l : List Oper} {o : Oper} {d : Nat} {w w' : World} {t : TypeId} {x y z : Operand} {u u2 u3 v : Value} (hop : o.op = .slice t x (some y) (some z) none) (hd : o.dst = some d) (hN : Nat.blt d N.n = true) (hg : gd ops s o = some true) (h0 : ev s x = some u) (h1 : ev s y = some u2) (h2 : ev s z = some u3) (hr : (Instr.sliceAt t u (some u2) (some u3) none).run P w = .ok v w') (h : WL P ops N Q ((d, v) :: s) l w') : WL P ops N Q s (o :: l) w :=
  WL.run hd hN hg (fun a k => by
    have k0 := k.eval h0
    have k1 := k.eval h1
    have k2 := k.eval h2
    unfold execOp
    rw [hop]
    simp only [Option.map_some, Option.map_none, k0, k1, k2, Sem.run_bind, hr, Result.andThen_ok, Sem.run_pure]) h

theorem O.sl0 {P : Program} {ops : Array Oper} {N : ND} {Q : Exit → Act → World → Prop} {s : List (Nat × Value)} {l : List Oper} {o : Oper} {d : Nat} {w w' : World} {t : TypeId} {x : Operand} {u v : Value} (hop : o.op = .slice t x none none none) (hd : o.dst = some d) (hN : Nat.blt d N.n = true) (hg : gd ops s o = some true) (h0 : ev s x = some u) (hr : (Instr.sliceAt t u none none none).run P w = .ok v w') (h : WL P ops N Q ((d, v) :: s) l w') : WL P ops N Q s (o :: l) w :=
  WL.run hd hN hg (fun a k => by
    have k0 := k.eval h0
    unfold execOp
    rw [hop]
    simp only [Option.map_some, Option.map_none, k0, Sem.run_bind, hr, Result.andThen_ok, Sem.run_pure]) h

theorem O.len {P : Program} {ops : Array Oper} {N : ND} {Q : Exit → Act → World → Prop} {s : List (Nat × Value)} {l : List Oper} {o : Oper} {d : Nat} {w : World} {x : Operand} {u v : Value} {t : TypeId} (hop : o.op = .call ⟨.builtin .len, #[x], #[t]⟩) (hd : o.dst = some d) (hN : Nat.blt d N.n = true) (hg : gd ops s o = some true) (hu : ev s x = some u) (hr : (Builtin.len_ #[t] o.type #[u]).run P w = .ok v w) (h : WL P ops N Q ((d, v) :: s) l w) : WL P ops N Q s (o :: l) w :=
  WL.run hd hN hg (fun a k => by
    have h1 := k.eval hu
    unfold execOp
    rw [hop]
    generalize a.eval = e at *
    simp [go_sem, h1, hr]) h

theorem O.ext {P : Program} {ops : Array Oper} {N : ND} {Q : Exit → Act → World → Prop} {s : List (Nat × Value)} {l : List Oper} {o : Oper} {d : Nat} {w : World} {x : Operand} {j : Nat} {vs : Array Value} {v : Value} (hop : o.op = .extract x j) (hd : o.dst = some d) (hN : Nat.blt d N.n = true) (hg : gd ops s o = some true) (hu : ev s x = some (.tuple vs)) (hv : vs[j]? = some v) (h : WL P ops N Q ((d, v) :: s) l w) : WL P ops N Q s (o :: l) w :=
  WL.run hd hN hg (fun a k => RH.extract (S := fun _ => True) hop hu hv a k w trivial) h

theorem O.nx {P : Program} {ops : Array Oper} {N : ND} {Q : Exit → Act → World → Prop} {s : List (Nat × Value)} {l : List Oper} {o : Oper} {d : Nat} {w w' : World} {x : Operand} {u v : Value} {b : Bool} (hop : o.op = .next x b) (hd : o.dst = some d) (hN : Nat.blt d N.n = true) (hg : gd ops s o = some true) (hu : ev s x = some u) (hr : (Instr.next u b o.type).run P w = .ok v w') (h : WL P ops N Q ((d, v) :: s) l w') : WL P ops N Q s (o :: l) w :=
  WL.run hd hN hg (fun a k => by
    have h1 := k.eval hu
    unfold execOp
    rw [hop]
    simp only [h1, Sem.run_bind, hr, Result.andThen_ok, Sem.run_pure]) h

theorem O.parts {N : ND} {s : List (Nat × Value)} {a : Act} (k : Kn N s a) {ps : Array (Nat × Operand)} {vs : Array (Nat × Value)} (hu : ps.toList.map (fun p => (p.1, ev s p.2)) = vs.toList.map (fun p => (p.1, some p.2))) : ps.map (fun p => (p.1, a.eval p.2)) = vs := by
  apply Array.toList_inj.1
  rw [Array.toList_map]
  revert hu
  generalize ps.toList = l
  generalize vs.toList = m
  induction l generalizing m with
  | nil => intro hu; cases m <;> simp_all
  | cons x l ih =>
    intro hu
    cases m with
    | nil => simp at hu
    | cons y m =>
      simp only [List.map_cons, List.cons.injEq, Prod.mk.injEq] at hu ⊢
      exact ⟨Prod.ext hu.1.1 (k.eval hu.1.2), ih m hu.2⟩

theorem O.bld {P : Program} {ops : Array Oper} {N : ND} {Q : Exit → Act → World → Prop} {s : List (Nat × Value)} {l : List Oper} {o : Oper} {d : Nat} {w w' : World} {t : TypeId} {ps : Array (Nat × Operand)} {vs : Array (Nat × Value)} {v : Value} (hop : o.op = .build t ps) (hd : o.dst = some d) (hN : Nat.blt d N.n = true) (hg : gd ops s o = some true) (hu : ps.toList.map (fun p => (p.1, ev s p.2)) = vs.toList.map (fun p => (p.1, some p.2))) (hr : (Instr.build t vs).run P w = .ok v w') (h : WL P ops N Q ((d, v) :: s) l w') : WL P ops N Q s (o :: l) w :=
  WL.run hd hN hg (fun a k => by
    have hm : ps.map (fun p => (p.1, a.eval p.2)) = vs := O.parts k hu
    unfold execOp
    rw [hop]
    simp only [hm, Sem.run_bind, hr, Result.andThen_ok, Sem.run_pure]) h

theorem O.bsl {P : Program} {ops : Array Oper} {N : ND} {Q : Exit → Act → World → Prop} {s : List (Nat × Value)} {l : List Oper} {o : Oper} {d : Nat} {w w' : World} {t : TypeId} {m : Nat} {ps : Array (Nat × Operand)} {vs : Array (Nat × Value)} {v : Value} (hop : o.op = .buildSlice t m ps) (hd : o.dst = some d) (hN : Nat.blt d N.n = true) (hg : gd ops s o = some true) (hu : ps.toList.map (fun p => (p.1, ev s p.2)) = vs.toList.map (fun p => (p.1, some p.2))) (hr : (Instr.buildSlice t m vs).run P w = .ok v w') (h : WL P ops N Q ((d, v) :: s) l w') : WL P ops N Q s (o :: l) w :=
  WL.run hd hN hg (fun a k => by
    have hm : ps.map (fun p => (p.1, a.eval p.2)) = vs := O.parts k hu
    unfold execOp
    rw [hop]
    simp only [hm, Sem.run_bind, hr, Result.andThen_ok, Sem.run_pure]) h

theorem O.split {P : Program} {ops : Array Oper} {N : ND} {Q : Exit → Act → World → Prop} {s : List (Nat × Value)} {l : List Oper} {d : Nat} {w : World} {b : Bool} (ht : b = true → WL P ops N Q ((d, .bool true) :: s) l w) (hf : b = false → WL P ops N Q ((d, .bool false) :: s) l w) : WL P ops N Q ((d, .bool b) :: s) l w := by
  cases b
  · exact hf rfl
  · exact ht rfl

theorem O.mid {P : Program} {N : ND} {Q : Exit → Act → World → Prop} {s : List (Nat × Value)} {x y : Code} {w : World} (I : Act → World → Prop) (h1 : TW P N (Exit.then I Q) s x w) (h2 : ∀ a w, I a w → y.wp P Q a w) : TW P N Q s (.seq x y) w := fun a k => by
  refine wp_seq (wp_mono (h1 a k) ?_)
  intro e a' w' q
  cases e with
  | normal => exact h2 a' w' q
  | exit id => exact q
  | goto l => exact q
  | ret => exact q
  | panic ch => exact q
  | outgrown => exact q

theorem O.miss {N : ND} {Q : Exit → Act → World → Prop} {s : List (Nat × Value)} {w : World} {i id : Nat} (hi : Nat.beq i id = false) (h : Xw (.exit i) N Q s w) : Xw (.exit i) N (Exit.inBlock id Q) s w := fun a k => by
  have := h a k
  have hne : ¬i = id := fun e => by rw [e, Nat.beq_refl] at hi; cases hi
  simpa [Exit.inBlock, hne] using this

theorem O.loopG {P : Program} {N : ND} {Q : Exit → Act → World → Prop} {s : List (Nat × Value)} {x : Code} {w : World} {n : Nat} (val : Act → World → Nat) (I : Nat → Act → World → Prop) (ht : ∀ j a w, I j a w → val a w = j) (j0 : Nat) (hj0 : j0 ≤ n) (h0 : ∀ a, Kn N s a → I j0 a w)
    (round : ∀ j a w, j ≤ n → I j a w → x.wp P (Exit.then (fun a w => ∃ j', j < j' ∧ j' ≤ n ∧ I j' a w) Q) a w) : TW P N Q s (.loop x) w := fun a k => by
  refine wp_loop (fun a w => ∃ j, j ≤ n ∧ I j a w) (fun a w => n - val a w) ⟨j0, hj0, h0 a k⟩ ?_
  rintro a w ⟨j, hj, hI⟩
  refine wp_mono (round j a w hj hI) ?_
  intro e a' w' q
  cases e with
  | normal =>
    obtain ⟨j', h1, h2, h3⟩ := q
    refine ⟨⟨j', h2, h3⟩, ?_⟩
    simp only [ht j a w hI, ht j' a' w' h3]
    omega
  | exit id => exact q
  | goto l => exact q
  | ret => exact q
  | panic ch => exact q
  | outgrown => exact q

theorem O.slotv {a : Act} {N : ND} {s : List (Nat × Value)} {t j : Nat} (k : Kn N s a) (h : lk s t = some (.int .i64 (j : Int))) : (intOf (a.tmps.getD t undef)).toNat = j := by
  have := k.has t _ h
  simp [Array.getD_eq_getD_getElem?, this, intOf]

theorem Q.cv {P : Program} {C : World → Prop} {N : ND} {s : List (Nat × Value)} {o : Oper} {t t2 : TypeId} {x : Operand} {u v : Value} (hop : o.op = .convert t t2 x) (h0 : ev s x = some u) (hr : ∀ w, C w → (convert t t2 u).run P w = .ok v w) : ∀ a, Kn N s a → ∀ w, C w → o.quietAt P a C w v := fun a k w hw => by
  refine quietAt_of ?_
  have k0 := k.eval h0
  unfold execOp
  rw [hop]
  simp only [k0, Sem.run_bind, hr w hw, Result.andThen_ok, Sem.run_pure]

theorem Q.ix {P : Program} {C : World → Prop} {N : ND} {s : List (Nat × Value)} {o : Oper} {t : TypeId} {x y : Operand} {u u2 v : Value} (hop : o.op = .index t x y) (h0 : ev s x = some u) (h1 : ev s y = some u2) (hr : ∀ w, C w → (Instr.index t u u2).run P w = .ok v w) : ∀ a, Kn N s a → ∀ w, C w → o.quietAt P a C w v := fun a k w hw => by
  refine quietAt_of ?_
  have k0 := k.eval h0
  have k1 := k.eval h1
  unfold execOp
  rw [hop]
  simp only [k0, k1, Sem.run_bind, hr w hw, Result.andThen_ok, Sem.run_pure]

theorem Q.fd {P : Program} {C : World → Prop} {N : ND} {s : List (Nat × Value)} {o : Oper} {t : TypeId} {j : Nat} {x : Operand} {u v : Value} (hop : o.op = .field t x j) (h0 : ev s x = some u) (hr : ∀ w, C w → (Instr.field t u j).run P w = .ok v w) : ∀ a, Kn N s a → ∀ w, C w → o.quietAt P a C w v := fun a k w hw => by
  refine quietAt_of ?_
  have k0 := k.eval h0
  unfold execOp
  rw [hop]
  simp only [k0, Sem.run_bind, hr w hw, Result.andThen_ok, Sem.run_pure]

theorem Q.un {P : Program} {C : World → Prop} {N : ND} {s : List (Nat × Value)} {o : Oper} {b : UnOp} {t : TypeId} {x : Operand} {u v : Value} (hop : o.op = .unOp b t x) (h0 : ev s x = some u) (hr : ∀ w, C w → ((Op.unary b u : Sem Value)).run P w = .ok v w) : ∀ a, Kn N s a → ∀ w, C w → o.quietAt P a C w v := fun a k w hw => by
  refine quietAt_of ?_
  have k0 := k.eval h0
  unfold execOp
  rw [hop]
  simp only [k0, Sem.run_bind, hr w hw, Result.andThen_ok, Sem.run_pure]

theorem Q.mi {P : Program} {C : World → Prop} {N : ND} {s : List (Nat × Value)} {o : Oper} {t : TypeId} {x : Operand} {u v : Value} (hop : o.op = .makeInterface t x) (h0 : ev s x = some u) (hr : ∀ w, C w → (Instr.makeInterface t u).run P w = .ok v w) : ∀ a, Kn N s a → ∀ w, C w → o.quietAt P a C w v := fun a k w hw => by
  refine quietAt_of ?_
  have k0 := k.eval h0
  unfold execOp
  rw [hop]
  simp only [k0, Sem.run_bind, hr w hw, Result.andThen_ok, Sem.run_pure]

theorem Q.ta {P : Program} {C : World → Prop} {N : ND} {s : List (Nat × Value)} {o : Oper} {t t2 : TypeId} {c : Bool} {x : Operand} {u v : Value} (hop : o.op = .typeAssert x t t2 c) (h0 : ev s x = some u) (hr : ∀ w, C w → (Instr.typeAssert u t t2 c).run P w = .ok v w) : ∀ a, Kn N s a → ∀ w, C w → o.quietAt P a C w v := fun a k w hw => by
  refine quietAt_of ?_
  have k0 := k.eval h0
  unfold execOp
  rw [hop]
  simp only [k0, Sem.run_bind, hr w hw, Result.andThen_ok, Sem.run_pure]

theorem Q.lu {P : Program} {C : World → Prop} {N : ND} {s : List (Nat × Value)} {o : Oper} {t : TypeId} {c : Bool} {x y : Operand} {u u2 v : Value} (hop : o.op = .lookup t x y c) (h0 : ev s x = some u) (h1 : ev s y = some u2) (hr : ∀ w, C w → (Instr.lookup t u u2 c).run P w = .ok v w) : ∀ a, Kn N s a → ∀ w, C w → o.quietAt P a C w v := fun a k w hw => by
  refine quietAt_of ?_
  have k0 := k.eval h0
  have k1 := k.eval h1
  unfold execOp
  rw [hop]
  simp only [k0, k1, Sem.run_bind, hr w hw, Result.andThen_ok, Sem.run_pure]

theorem Q.sl1 {P : Program} {C : World → Prop} {N : ND} {s : List (Nat × Value)} {o : Oper} {t : TypeId} {x y : Operand} {u u2 v : Value} (hop : o.op = .slice t x (some y) none none) (h0 : ev s x = some u) (h1 : ev s y = some u2) (hr : ∀ w, C w → (Instr.sliceAt t u (some u2) none none).run P w = .ok v w) : ∀ a, Kn N s a → ∀ w, C w → o.quietAt P a C w v := fun a k w hw => by
  refine quietAt_of ?_
  have k0 := k.eval h0
  have k1 := k.eval h1
  unfold execOp
  rw [hop]
  simp only [Option.map_some, Option.map_none, k0, k1, Sem.run_bind, hr w hw, Result.andThen_ok, Sem.run_pure]

theorem Q.sl2 {P : Program} {C : World → Prop} {N : ND} {s : List (Nat × Value)} {o : Oper} {t : TypeId} {x y : Operand} {u u2 v : Value} (hop : o.op = .slice t x none (some y) none) (h0 : ev s x = some u) (h1 : ev s y = some u2) (hr : ∀ w, C w → (Instr.sliceAt t u none (some u2) none).run P w = .ok v w) : ∀ a, Kn N s a → ∀ w, C w → o.quietAt P a C w v := fun a k w hw => by
  refine quietAt_of ?_
  have k0 := k.eval h0
  have k1 := k.eval h1
  unfold execOp
  rw [hop]
  simp only [Option.map_some, Option.map_none, k0, k1, Sem.run_bind, hr w hw, Result.andThen_ok, Sem.run_pure]

theorem Q.sl12 {P : Program} {C : World → Prop} {N : ND} {s : List (Nat × Value)} {o : Oper} {t : TypeId} {x y z : Operand} {u u2 u3 v : Value} (hop : o.op = .slice t x (some y) (some z) none) (h0 : ev s x = some u) (h1 : ev s y = some u2) (h2 : ev s z = some u3) (hr : ∀ w, C w → (Instr.sliceAt t u (some u2) (some u3) none).run P w = .ok v w) : ∀ a, Kn N s a → ∀ w, C w → o.quietAt P a C w v := fun a k w hw => by
  refine quietAt_of ?_
  have k0 := k.eval h0
  have k1 := k.eval h1
  have k2 := k.eval h2
  unfold execOp
  rw [hop]
  simp only [Option.map_some, Option.map_none, k0, k1, k2, Sem.run_bind, hr w hw, Result.andThen_ok, Sem.run_pure]

theorem Q.bld {P : Program} {C : World → Prop} {N : ND} {s : List (Nat × Value)} {o : Oper} {t : TypeId} {ps : Array (Nat × Operand)} {vs : Array (Nat × Value)} {v : Value} (hop : o.op = .build t ps) (hu : ps.toList.map (fun p => (p.1, ev s p.2)) = vs.toList.map (fun p => (p.1, some p.2))) (hr : ∀ w, C w → (Instr.build t vs).run P w = .ok v w) : ∀ a, Kn N s a → ∀ w, C w → o.quietAt P a C w v := fun a k w hw => by
  refine quietAt_of ?_
  have hm : ps.map (fun p => (p.1, a.eval p.2)) = vs := O.parts k hu
  unfold execOp
  rw [hop]
  simp only [hm, Sem.run_bind, hr w hw, Result.andThen_ok, Sem.run_pure]

theorem Q.ext {P : Program} {C : World → Prop} {N : ND} {s : List (Nat × Value)} {o : Oper} {x : Operand} {j : Nat} {vs : Array Value} {v : Value} (hop : o.op = .extract x j) (hu : ev s x = some (.tuple vs)) (hv : vs[j]? = some v) : ∀ a, Kn N s a → ∀ w, C w → o.quietAt P a C w v := fun a k w hw => quietAt_of (RH.extract (S := fun _ => True) hop hu hv a k w trivial)

theorem Q.len {P : Program} {C : World → Prop} {N : ND} {s : List (Nat × Value)} {o : Oper} {x : Operand} {t : TypeId} {u v : Value} (hop : o.op = .call ⟨.builtin .len, #[x], #[t]⟩) (hu : ev s x = some u) (hr : ∀ w, (Builtin.len_ #[t] o.type #[u]).run P w = .ok v w) : ∀ a, Kn N s a → ∀ w, C w → o.quietAt P a C w v := fun a k w hw => by
  have h1 := k.eval hu
  refine quietAt_of ?_
  unfold execOp
  rw [hop]
  generalize a.eval = e at *
  simp [go_sem, h1, hr]

theorem Q.sreg {P : Program} {N : ND} {Q : Exit → Act → World → Prop} {s : List (Nat × Value)} {l : List Oper} {w : World} {y : Code} {id : Nat} {C : World → Prop} (hm : P.follows .mixedOrders = true) (hB : Region.lexB .any l.toArray = true) (hC : ∀ w, C w → C w.drew) (hw : C w) (h : W P l.toArray C N (fun a => ∀ w, C w → y.wp P Q a w) s l) : TW P N Q s (.seq (.region id l.toArray true) y) w :=
  TW.to C hw (T.seq (T.regD hm hB hC h))

theorem Q.reg {P : Program} {N : ND} {Q : Exit → Act → World → Prop} {s : List (Nat × Value)} {l : List Oper} {w : World} {id : Nat} {C : World → Prop} (hm : P.follows .mixedOrders = true) (hB : Region.lexB .any l.toArray = true) (hC : ∀ w, C w → C w.drew) (hw : C w) (h : W P l.toArray C N (fun a => ∀ w, C w → Q .normal a w) s l) : TW P N Q s (.region id l.toArray true) w :=
  TW.to C hw (T.regD hm hB hC h)

theorem Q.nil {P : Program} {ops : Array Oper} {C : World → Prop} {N : ND} {Q : Exit → Act → World → Prop} {s : List (Nat × Value)} {y : Code} (h : T P C N Q s y) : W P ops C N (fun a => ∀ w, C w → y.wp P Q a w) s [] := W.nil fun a k w hw => h a w k hw

theorem Q.end {P : Program} {ops : Array Oper} {C : World → Prop} {N : ND} {Q : Exit → Act → World → Prop} {s : List (Nat × Value)} (h : ∀ w, C w → Xw .normal N Q s w) : W P ops C N (fun a => ∀ w, C w → Q .normal a w) s [] := W.nil fun a k w hw => h w hw a k

theorem Q.split {P : Program} {ops : Array Oper} {C : World → Prop} {N : ND} {Q : Act → Prop} {s : List (Nat × Value)} {l : List Oper} {d : Nat} {b : Bool} (ht : b = true → W P ops C N Q ((d, .bool true) :: s) l) (hf : b = false → W P ops C N Q ((d, .bool false) :: s) l) : W P ops C N Q ((d, .bool b) :: s) l := by
  cases b
  · exact hf rfl
  · exact ht rfl

theorem O.ldg {P : Program} {ops : Array Oper} {N : ND} {Q : Exit → Act → World → Prop} {s : List (Nat × Value)} {l : List Oper} {o : Oper} {d : Nat} {w w' : World} {t : TypeId} {g : Nat} {v : Value} (hop : o.op = .load t (.global g)) (hd : o.dst = some d) (hN : Nat.blt d N.n = true) (hg : gd ops s o = some true) (hr : (Instr.loadAt t (.pointer (some ⟨g, 0, none⟩))).run P w = .ok v w') (h : WL P ops N Q ((d, v) :: s) l w') : WL P ops N Q s (o :: l) w :=
  WL.run hd hN hg (fun a k => by
    have h1 : a.eval (.global g) = .pointer (some ⟨g, 0, none⟩) := rfl
    unfold execOp
    rw [hop]
    simp only [h1, Sem.run_bind, hr, Result.andThen_ok, Sem.run_pure]) h

theorem O.ixg {P : Program} {ops : Array Oper} {N : ND} {Q : Exit → Act → World → Prop} {s : List (Nat × Value)} {l : List Oper} {o : Oper} {d : Nat} {w w' : World} {t : TypeId} {g : Nat} {y : Operand} {i v : Value} (hop : o.op = .indexAddr t (.global g) y) (hd : o.dst = some d) (hN : Nat.blt d N.n = true) (hg : gd ops s o = some true) (hi : ev s y = some i) (hr : (Instr.indexAt t (.pointer (some ⟨g, 0, none⟩)) i).run P w = .ok v w') (h : WL P ops N Q ((d, v) :: s) l w') : WL P ops N Q s (o :: l) w :=
  WL.run hd hN hg (fun a k => by
    have h2 := k.eval hi
    have h1 : a.eval (.global g) = .pointer (some ⟨g, 0, none⟩) := rfl
    unfold execOp
    rw [hop]
    simp only [h1, h2, Sem.run_bind, hr, Result.andThen_ok, Sem.run_pure]) h

theorem O.calln {P : Program} {ops : Array Oper} {N : ND} {Q : Exit → Act → World → Prop} {s : List (Nat × Value)} {l : List Oper} {o : Oper} {w : World} {f : Nat} {xs ts : Array _} {vs : Array Value} {R : Ending → World → Prop} (hop : o.op = .call ⟨.value (.func f), xs, ts⟩) (hd : o.dst = none) (hg : gd ops s o = some true) (hu : xs.toList.map (ev s) = vs.toList.map some) (hc : ∀ w, (callFunc f vs).run P w = .ok (.enter f vs) w) (hr : Calls P f vs w R) (h : ∀ e w', R e w' → ∃ v, e = .returned v ∧ WL P ops N Q s l w') : WL P ops N Q s (o :: l) w := fun a k => by
  have hm := evs k hu
  have hf : a.eval (.func f) = .func (.func f) #[] #[] := rfl
  unfold wpList
  rw [gd_wanted k hg, if_pos rfl]
  refine .inl ?_
  unfold Oper.wp
  have he : (execOp a.eval o).run P w = .ok (.enter f vs) w := by
    unfold execOp
    rw [hop]
    generalize a.eval = e at *
    simp [go_sem, hm, hf, hc]
  rw [he]
  unfold Oper.upon
  refine hr.mono fun e w' q => ?_
  obtain ⟨v, rfl, hv⟩ := h e w' q
  rw [hd]
  exact hv a k

theorem O.runR {P : Program} {ops : Array Oper} {N : ND} {Q : Exit → Act → World → Prop} {s : List (Nat × Value)} {l : List Oper} {o : Oper} {d : Nat} {w : World} {v : Value} {R : World → Prop} (hd : o.dst = some d) (hN : Nat.blt d N.n = true) (hg : gd ops s o = some true) (hr : ∃ w', (∀ a, Kn N s a → (execOp a.eval o).run P w = .ok (.value v) w') ∧ R w') (h : ∀ w', R w' → WL P ops N Q ((d, v) :: s) l w') : WL P ops N Q s (o :: l) w := by
  obtain ⟨w', h1, h2⟩ := hr
  exact WL.run hd hN hg h1 (h w' h2)

theorem O.boxR {P : Program} {ops : Array Oper} {N : ND} {Q : Exit → Act → World → Prop} {s : List (Nat × Value)} {l : List Oper} {o : Oper} {d : Nat} {w : World} {t : TypeId} {e : Operand} {u v : Value} {R : World → Prop} (hop : o.op = .box t e) (hd : o.dst = some d) (hN : Nat.blt d N.n = true) (hg : gd ops s o = some true) (hu : ev s e = some u) (hr : ∃ w', (Instr.box t u).run P w = .ok v w' ∧ R w') (h : ∀ w', R w' → WL P ops N Q ((d, v) :: s) l w') : WL P ops N Q s (o :: l) w := by
  obtain ⟨w', h1, h2⟩ := hr
  exact WL.box hop hd hN hg hu h1 (h w' h2)

theorem O.allocR {P : Program} {ops : Array Oper} {N : ND} {Q : Exit → Act → World → Prop} {s : List (Nat × Value)} {l : List Oper} {o : Oper} {d : Nat} {w : World} {t : TypeId} {v : Value} {R : World → Prop} (hop : o.op = .alloc t) (hd : o.dst = some d) (hN : Nat.blt d N.n = true) (hg : gd ops s o = some true) (hr : ∃ w', (Instr.alloc t true (.tuple #[])).run P w = .ok v w' ∧ R w') (h : ∀ w', R w' → WL P ops N Q ((d, v) :: s) l w') : WL P ops N Q s (o :: l) w := by
  obtain ⟨w', h1, h2⟩ := hr
  exact WL.alloc hop hd hN hg h1 (h w' h2)

theorem O.storeR {P : Program} {ops : Array Oper} {N : ND} {Q : Exit → Act → World → Prop} {s : List (Nat × Value)} {l : List Oper} {o : Oper} {w : World} {t : TypeId} {e x : Operand} {u v : Value} {R : World → Prop} (hop : o.op = .store t e x) (hd : o.dst = none) (hg : gd ops s o = some true) (hu : ev s e = some u) (hv : ev s x = some v) (hr : ∃ w', (Instr.storeAt t u v).run P w = .ok () w' ∧ R w') (h : ∀ w', R w' → WL P ops N Q s l w') : WL P ops N Q s (o :: l) w := by
  obtain ⟨w', h1, h2⟩ := hr
  exact WL.store hop hd hg hu hv h1 (h w' h2)

section

variable {P : Program} {ops : Array Oper} {N : ND} {Q : Exit → Act → World → Prop} {s : List (Nat × Value)} {l : List Oper} {o : Oper} {d : Nat} {w : World}

theorem evl {a : Act} (k : Kn N s a) : ∀ (fs : List Value) (xs : List Operand) (cs as : List Value), fs.map some ++ (xs.map (ev s) ++ cs.map some) = as.map some → fs ++ (xs.map a.eval ++ cs) = as
  | [], [], cs, as, h => by
    simp only [List.map_nil, List.nil_append] at h ⊢
    exact (List.map_inj_right (fun _ _ h => Option.some.inj h)).1 h
  | [], x :: xs, cs, [], h => by simp at h
  | [], x :: xs, cs, y :: as, h => by
    simp only [List.map_nil, List.nil_append, List.map_cons, List.cons_append, List.cons.injEq] at h ⊢
    exact ⟨k.eval h.1, by simpa using evl k [] xs cs as (by simpa using h.2)⟩
  | f :: fs, xs, cs, [], h => by simp at h
  | f :: fs, xs, cs, y :: as, h => by
    simp only [List.map_cons, List.cons_append, List.cons.injEq, Option.some.injEq] at h ⊢
    exact ⟨h.1, evl k fs xs cs as h.2⟩

theorem O.callvE {f : Nat} {g : Operand} {fs cs : Array Value} {xs ts : Array _} {as : Array Value} (hop : o.op = .call ⟨.value g, xs, ts⟩) (hf : ev s g = some (.func (.func f) fs cs)) (hu : fs.toList.map some ++ (xs.toList.map (ev s) ++ cs.toList.map some) = as.toList.map some) (hc : ∀ w, (callFunc f as).run P w = .ok (.enter f as) w) (a : Act) (k : Kn N s a) : (execOp a.eval o).run P w = .ok (.enter f as) w := by
  have hm := evl k _ _ _ _ hu
  have hf := k.eval hf
  have hm2 : fs ++ (xs.map a.eval ++ cs) = as := by
    apply Array.toList_inj.1
    simpa using hm
  unfold execOp
  rw [hop]
  subst hm2
  generalize a.eval = e at *
  simp [go_sem, hf, hc]

theorem O.callv {f : Nat} {g : Operand} {fs cs : Array Value} {xs ts : Array _} {as : Array Value} {R : Ending → World → Prop} (hop : o.op = .call ⟨.value g, xs, ts⟩) (hd : o.dst = some d) (hN : Nat.blt d N.n = true) (hg : gd ops s o = some true) (hf : ev s g = some (.func (.func f) fs cs)) (hu : fs.toList.map some ++ (xs.toList.map (ev s) ++ cs.toList.map some) = as.toList.map some) (hc : ∀ w, (callFunc f as).run P w = .ok (.enter f as) w) (hr : Calls P f as w R) (h : ∀ e w', R e w' → ∃ v, e = .returned v ∧ WL P ops N Q ((d, v) :: s) l w') : WL P ops N Q s (o :: l) w := fun a k => by
  unfold wpList
  rw [gd_wanted k hg, if_pos rfl]
  refine .inl ?_
  unfold Oper.wp
  rw [O.callvE hop hf hu hc a k]
  unfold Oper.upon
  refine hr.mono fun e w' q => ?_
  obtain ⟨v, rfl, hv⟩ := h e w' q
  rw [hd]
  exact hv _ (k.put hN _)

theorem O.mf {fn : Fn} {xs ys : Array Operand} {vs us : Array Value} {v : Value} {w' : World} (hop : o.op = .makeFunc fn xs ys) (hd : o.dst = some d) (hN : Nat.blt d N.n = true) (hg : gd ops s o = some true) (h1 : xs.toList.map (ev s) = vs.toList.map some) (h2 : ys.toList.map (ev s) = us.toList.map some) (hr : (Instr.makeFunc fn vs us).run P w = .ok v w') (h : WL P ops N Q ((d, v) :: s) l w') : WL P ops N Q s (o :: l) w :=
  WL.run hd hN hg (fun a k => by
    have k1 := evs k h1
    have k2 := evs k h2
    unfold execOp
    rw [hop]
    simp only [k1, k2, Sem.run_bind, hr, Result.andThen_ok, Sem.run_pure]) h

end

theorem O.bmax {P : Program} {ops : Array Oper} {N : ND} {Q : Exit → Act → World → Prop} {s : List (Nat × Value)} {l : List Oper} {o : Oper} {d : Nat} {w : World} {x y : Operand} {t t2 : TypeId} {u u2 v : Value} (hop : o.op = .call ⟨.builtin .max, #[x, y], #[t, t2]⟩) (hd : o.dst = some d) (hN : Nat.blt d N.n = true) (hg : gd ops s o = some true) (hu : ev s x = some u) (hu2 : ev s y = some u2) (hr : (Builtin.max_ #[t, t2] o.type #[u, u2]).run P w = .ok v w) (h : WL P ops N Q ((d, v) :: s) l w) : WL P ops N Q s (o :: l) w :=
  WL.run hd hN hg (fun a k => by
    have h1 := k.eval hu
    have h2 := k.eval hu2
    unfold execOp
    rw [hop]
    generalize a.eval = e at *
    simp [go_sem, h1, h2, hr]) h

theorem RH.not {P : Program} {S : World → Prop} {N : ND} {s : List (Nat × Value)} {o : Oper} {t : TypeId} {x : Operand} {b : Bool} (hop : o.op = .unOp .not t x) (hu : ev s x = some (.bool b)) : ∀ a, Kn N s a → ∀ w, S w → (execOp a.eval o).run P w = .ok (.value (.bool (!b))) w := fun a k w _ => by
  unfold execOp
  rw [hop]
  simp only [k.eval hu]
  simp [go_sem]

theorem RH.bin {P : Program} {S : World → Prop} {N : ND} {s : List (Nat × Value)} {o : Oper} {b : BinOp} {t r : TypeId} {x y : Operand} {u u' v : Value} (hop : o.op = .binOp b t x y r) (hu : ev s x = some u) (hu' : ev s y = some u') (hr : ∀ w, (do eqGuard b t x y u u'; binOp b t u u' : Sem Value).run P w = .ok v w) : ∀ a, Kn N s a → ∀ w, S w → (execOp a.eval o).run P w = .ok (.value v) w := fun a k w _ => by
  unfold execOp
  rw [hop]
  have := hr w
  simp only [k.eval hu, k.eval hu', Sem.run_bind] at this ⊢
  rw [this]
  simp [go_sem]

theorem RH.len {P : Program} {S : World → Prop} {N : ND} {s : List (Nat × Value)} {o : Oper} {x : Operand} {t : TypeId} {g : Option Addr} {n c : Nat} (hop : o.op = .call ⟨.builtin .len, #[x], #[t]⟩) (hu : ev s x = some (.slice g n c)) (hr : ∀ w, (Builtin.len_ #[t] o.type #[.slice g n c]).run P w = .ok (.int .i64 n) w) : ∀ a, Kn N s a → ∀ w, S w → (execOp a.eval o).run P w = .ok (.value (.int .i64 n)) w := fun a k w _ => by
  have h1 := k.eval hu
  unfold execOp
  rw [hop]
  generalize a.eval = e at *
  simp [go_sem, h1, hr]

theorem RH.cv {P : Program} {S : World → Prop} {N : ND} {s : List (Nat × Value)} {o : Oper} {t t2 : TypeId} {x : Operand} {u v : Value} (hop : o.op = .convert t t2 x) (h0 : ev s x = some u) (hr : ∀ w, S w → (convert t t2 u).run P w = .ok v w) : ∀ a, Kn N s a → ∀ w, S w → (execOp a.eval o).run P w = .ok (.value v) w := fun a k w hw => by
  have k0 := k.eval h0
  unfold execOp
  rw [hop]
  simp only [k0, Sem.run_bind, hr w hw, Result.andThen_ok, Sem.run_pure]

theorem RH.ix {P : Program} {S : World → Prop} {N : ND} {s : List (Nat × Value)} {o : Oper} {t : TypeId} {x y : Operand} {u u2 v : Value} (hop : o.op = .index t x y) (h0 : ev s x = some u) (h1 : ev s y = some u2) (hr : ∀ w, S w → (Instr.index t u u2).run P w = .ok v w) : ∀ a, Kn N s a → ∀ w, S w → (execOp a.eval o).run P w = .ok (.value v) w := fun a k w hw => by
  have k0 := k.eval h0
  have k1 := k.eval h1
  unfold execOp
  rw [hop]
  simp only [k0, k1, Sem.run_bind, hr w hw, Result.andThen_ok, Sem.run_pure]

theorem RH.fd {P : Program} {S : World → Prop} {N : ND} {s : List (Nat × Value)} {o : Oper} {t : TypeId} {j : Nat} {x : Operand} {u v : Value} (hop : o.op = .field t x j) (h0 : ev s x = some u) (hr : ∀ w, S w → (Instr.field t u j).run P w = .ok v w) : ∀ a, Kn N s a → ∀ w, S w → (execOp a.eval o).run P w = .ok (.value v) w := fun a k w hw => by
  have k0 := k.eval h0
  unfold execOp
  rw [hop]
  simp only [k0, Sem.run_bind, hr w hw, Result.andThen_ok, Sem.run_pure]

theorem RH.un {P : Program} {S : World → Prop} {N : ND} {s : List (Nat × Value)} {o : Oper} {b : UnOp} {t : TypeId} {x : Operand} {u v : Value} (hop : o.op = .unOp b t x) (h0 : ev s x = some u) (hr : ∀ w, S w → ((Op.unary b u : Sem Value)).run P w = .ok v w) : ∀ a, Kn N s a → ∀ w, S w → (execOp a.eval o).run P w = .ok (.value v) w := fun a k w hw => by
  have k0 := k.eval h0
  unfold execOp
  rw [hop]
  simp only [k0, Sem.run_bind, hr w hw, Result.andThen_ok, Sem.run_pure]

theorem RH.mi {P : Program} {S : World → Prop} {N : ND} {s : List (Nat × Value)} {o : Oper} {t : TypeId} {x : Operand} {u v : Value} (hop : o.op = .makeInterface t x) (h0 : ev s x = some u) (hr : ∀ w, S w → (Instr.makeInterface t u).run P w = .ok v w) : ∀ a, Kn N s a → ∀ w, S w → (execOp a.eval o).run P w = .ok (.value v) w := fun a k w hw => by
  have k0 := k.eval h0
  unfold execOp
  rw [hop]
  simp only [k0, Sem.run_bind, hr w hw, Result.andThen_ok, Sem.run_pure]

theorem RH.ta {P : Program} {S : World → Prop} {N : ND} {s : List (Nat × Value)} {o : Oper} {t t2 : TypeId} {c : Bool} {x : Operand} {u v : Value} (hop : o.op = .typeAssert x t t2 c) (h0 : ev s x = some u) (hr : ∀ w, S w → (Instr.typeAssert u t t2 c).run P w = .ok v w) : ∀ a, Kn N s a → ∀ w, S w → (execOp a.eval o).run P w = .ok (.value v) w := fun a k w hw => by
  have k0 := k.eval h0
  unfold execOp
  rw [hop]
  simp only [k0, Sem.run_bind, hr w hw, Result.andThen_ok, Sem.run_pure]

theorem RH.lu {P : Program} {S : World → Prop} {N : ND} {s : List (Nat × Value)} {o : Oper} {t : TypeId} {c : Bool} {x y : Operand} {u u2 v : Value} (hop : o.op = .lookup t x y c) (h0 : ev s x = some u) (h1 : ev s y = some u2) (hr : ∀ w, S w → (Instr.lookup t u u2 c).run P w = .ok v w) : ∀ a, Kn N s a → ∀ w, S w → (execOp a.eval o).run P w = .ok (.value v) w := fun a k w hw => by
  have k0 := k.eval h0
  have k1 := k.eval h1
  unfold execOp
  rw [hop]
  simp only [k0, k1, Sem.run_bind, hr w hw, Result.andThen_ok, Sem.run_pure]

theorem RH.sl1 {P : Program} {S : World → Prop} {N : ND} {s : List (Nat × Value)} {o : Oper} {t : TypeId} {x y : Operand} {u u2 v : Value} (hop : o.op = .slice t x (some y) none none) (h0 : ev s x = some u) (h1 : ev s y = some u2) (hr : ∀ w, S w → (Instr.sliceAt t u (some u2) none none).run P w = .ok v w) : ∀ a, Kn N s a → ∀ w, S w → (execOp a.eval o).run P w = .ok (.value v) w := fun a k w hw => by
  have k0 := k.eval h0
  have k1 := k.eval h1
  unfold execOp
  rw [hop]
  simp only [Option.map_some, Option.map_none, k0, k1, Sem.run_bind, hr w hw, Result.andThen_ok, Sem.run_pure]

theorem RH.sl2 {P : Program} {S : World → Prop} {N : ND} {s : List (Nat × Value)} {o : Oper} {t : TypeId} {x y : Operand} {u u2 v : Value} (hop : o.op = .slice t x none (some y) none) (h0 : ev s x = some u) (h1 : ev s y = some u2) (hr : ∀ w, S w → (Instr.sliceAt t u none (some u2) none).run P w = .ok v w) : ∀ a, Kn N s a → ∀ w, S w → (execOp a.eval o).run P w = .ok (.value v) w := fun a k w hw => by
  have k0 := k.eval h0
  have k1 := k.eval h1
  unfold execOp
  rw [hop]
  simp only [Option.map_some, Option.map_none, k0, k1, Sem.run_bind, hr w hw, Result.andThen_ok, Sem.run_pure]

theorem RH.sl12 {P : Program} {S : World → Prop} {N : ND} {s : List (Nat × Value)} {o : Oper} {t : TypeId} {x y z : Operand} {u u2 u3 v : Value} (hop : o.op = .slice t x (some y) (some z) none) (h0 : ev s x = some u) (h1 : ev s y = some u2) (h2 : ev s z = some u3) (hr : ∀ w, S w → (Instr.sliceAt t u (some u2) (some u3) none).run P w = .ok v w) : ∀ a, Kn N s a → ∀ w, S w → (execOp a.eval o).run P w = .ok (.value v) w := fun a k w hw => by
  have k0 := k.eval h0
  have k1 := k.eval h1
  have k2 := k.eval h2
  unfold execOp
  rw [hop]
  simp only [Option.map_some, Option.map_none, k0, k1, k2, Sem.run_bind, hr w hw, Result.andThen_ok, Sem.run_pure]

theorem RH.bld {P : Program} {S : World → Prop} {N : ND} {s : List (Nat × Value)} {o : Oper} {t : TypeId} {ps : Array (Nat × Operand)} {vs : Array (Nat × Value)} {v : Value} (hop : o.op = .build t ps) (hu : ps.toList.map (fun p => (p.1, ev s p.2)) = vs.toList.map (fun p => (p.1, some p.2))) (hr : ∀ w, S w → (Instr.build t vs).run P w = .ok v w) : ∀ a, Kn N s a → ∀ w, S w → (execOp a.eval o).run P w = .ok (.value v) w := fun a k w hw => by
  have hm : ps.map (fun p => (p.1, a.eval p.2)) = vs := O.parts k hu
  unfold execOp
  rw [hop]
  simp only [hm, Sem.run_bind, hr w hw, Result.andThen_ok, Sem.run_pure]

theorem RH.pick {P : Program} {S : World → Prop} {N : ND} {s : List (Nat × Value)} {o : Oper} {x y z : Operand} {b : Bool} {v : Value} (hop : o.op = .pick x y z) (hb : ev s x = some (.bool b)) (hv : ev s (if b then y else z) = some v) : ∀ a, Kn N s a → ∀ w, S w → (execOp a.eval o).run P w = .ok (.value v) w := fun a k w _ => by
  have h1 := k.eval hb
  have h2 := k.eval hv
  unfold execOp
  rw [hop]
  generalize a.eval = e at *
  cases b
  · simp only [Bool.false_eq_true, if_false] at h2
    simp [go_sem, h1, h2]
  · simp only [if_true] at h2
    simp [go_sem, h1, h2]

section

variable {P : Program} {ops : Array Oper} {S : World → Prop} {N : ND} {Q : Exit → Act → World → Prop} {s : List (Nat × Value)} {l : List Oper} {o o' o'' : Oper} {d i i' i'' fuel : Nat} {listed : Array Bool} {w : World}

theorem WH.skip (i : Nat) (hi : ops[i]? = some o) (hsel : Region.noSelect ops = true) (hf : Region.free .any ops listed i = true) (hr : (Region.ready .any ops listed).contains i = true) (hQ : ∀ c a (d : Nat) v w, Q (.panic c) (a.put (some d) v) w → Q (.panic c) a w) (hd : o.dst = some d) (hN : Nat.blt d N.n = true) (hg : gd ops s o = some false) (hS : S w)
    (h : WH P ops S N Q fuel (listed.setIfInBounds i true) ((d, undef) :: s) w) : WH P ops S N Q (fuel + 1) listed s w := fun a k =>
  wpAnyH_take hi hsel hf hr (fun c a2 w h => hQ c a2 d _ w (by rw [hd] at h; exact h)) (.inr ⟨gd_wanted k hg, rfl⟩) hS (by rw [hd]; exact h _ (k.put hN _))

theorem WH.split {b : Bool} (ht : b = true → WH P ops S N Q fuel listed ((d, .bool true) :: s) w) (hf : b = false → WH P ops S N Q fuel listed ((d, .bool false) :: s) w) : WH P ops S N Q fuel listed ((d, .bool b) :: s) w := by
  cases b
  · exact hf rfl
  · exact ht rfl

theorem WH.three (i i' i'' : Nat) (hr : Region.ready .any ops listed = [i, i', i'']) (hi : ops[i]? = some o) (hi' : ops[i']? = some o') (hi'' : ops[i'']? = some o'') (h : WL P ops N (Go1 P ops S Q fuel (listed.setIfInBounds i true)) s [o] w) (h' : WL P ops N (Go1 P ops S Q fuel (listed.setIfInBounds i' true)) s [o'] w) (h'' : WL P ops N (Go1 P ops S Q fuel (listed.setIfInBounds i'' true)) s [o''] w) : WH P ops S N Q (fuel + 1) listed s w := fun a k =>
  wpAnyH_all hr (by simp) (fun j hj => by
    have : j = i ∨ j = i' ∨ j = i'' := by simpa using hj
    rcases this with e | e | e
    · subst e; exact wpOp_of_list hi (h a k)
    · subst e; exact wpOp_of_list hi' (h' a k)
    · subst e; exact wpOp_of_list hi'' (h'' a k))

end

theorem O.mkR {P : Program} {ops : Array Oper} {N : ND} {Q : Exit → Act → World → Prop} {s : List (Nat × Value)} {l : List Oper} {o : Oper} {d : Nat} {w : World} {t ty : TypeId} {x y : Operand} {u u2 v : Value} {z : Array Value} (hop : o.op = .makeSlice t x y) (hd : o.dst = some d) (hN : Nat.blt d N.n = true) (hg : gd ops s o = some true) (h0 : ev s x = some u) (h1 : ev s y = some u2) (hr : (Instr.makeSlice t u u2).run P w = .ok v (w.alloc (.cells z ty))) (h : ∀ w', Fr (fun _ => False) w w' ∧ Bx w' w.heap.size z ty → WL P ops N Q ((d, v) :: s) l w') : WL P ops N Q s (o :: l) w := O.mk hop hd hN hg h0 h1 hr (h _ ⟨fr_al (Fr.refl _ _) _, Bx.new _ _ _⟩)

theorem O.loopX {P : Program} {N : ND} {Q : Exit → Act → World → Prop} {s : List (Nat × Value)} {x : Code} {w : World} {n : Nat} (I : Nat → Act → World → Prop) (j0 : Nat) (hj0 : j0 ≤ n) (h0 : ∀ a, Kn N s a → I j0 a w)
    (round : ∀ j a w, j ≤ n → I j a w → x.wp P (Exit.then (fun a w => ∃ j', j < j' ∧ j' ≤ n ∧ I j' a w) Q) a w) : TW P N Q s (.loop x) w := fun a k => by
  refine wp_loop (fun a w => ∃ j, j ≤ n ∧ I j a w) (fun a w => leastD fun d => d ≤ n ∧ I (n - d) a w) ⟨j0, hj0, h0 a k⟩ ?_
  rintro a w ⟨j, hj, hI⟩
  have hp : (fun d => d ≤ n ∧ I (n - d) a w) (n - j) := ⟨by omega, by rw [Nat.sub_sub_self hj]; exact hI⟩
  obtain ⟨hm, _⟩ := leastD_spec (p := fun d => d ≤ n ∧ I (n - d) a w) hp
  generalize hd : leastD (fun d => d ≤ n ∧ I (n - d) a w) = d at *
  refine wp_mono (round (n - d) a w (by omega) hm.2) ?_
  intro e a' w' q
  cases e with
  | normal =>
    obtain ⟨j', h1, h2, h3⟩ := q
    refine ⟨⟨j', h2, h3⟩, ?_⟩
    have hp' : (fun d => d ≤ n ∧ I (n - d) a' w') (n - j') := ⟨by omega, by rw [Nat.sub_sub_self h2]; exact h3⟩
    have := leastD_le (p := fun d => d ≤ n ∧ I (n - d) a' w') hp'
    have := hm.1
    show leastD (fun d => d ≤ n ∧ I (n - d) a' w') < d
    omega
  | exit id => exact q
  | goto l => exact q
  | ret => exact q
  | panic ch => exact q
  | outgrown => exact q

theorem O.mf1 {P : Program} {ops : Array Oper} {N : ND} {Q : Exit → Act → World → Prop} {s : List (Nat × Value)} {l : List Oper} {o : Oper} {d : Nat} {w w' : World} {fn : Fn} {x : Operand} {u v : Value} (hop : o.op = .makeFunc fn #[] #[x]) (hd : o.dst = some d) (hN : Nat.blt d N.n = true) (hg : gd ops s o = some true) (h1 : ev s x = some u) (hr : (Instr.makeFunc fn #[] #[u]).run P w = .ok v w') (h : WL P ops N Q ((d, v) :: s) l w') : WL P ops N Q s (o :: l) w :=
  O.mf hop hd hN hg (vs := #[]) (us := #[u]) rfl (by simp [h1]) hr h

theorem O.bslR {P : Program} {ops : Array Oper} {N : ND} {Q : Exit → Act → World → Prop} {s : List (Nat × Value)} {l : List Oper} {o : Oper} {d : Nat} {w : World} {t ty : TypeId} {m : Nat} {ps : Array (Nat × Operand)} {vs : Array (Nat × Value)} {v : Value} {z : Array Value} (hop : o.op = .buildSlice t m ps) (hd : o.dst = some d) (hN : Nat.blt d N.n = true) (hg : gd ops s o = some true) (hu : ps.toList.map (fun p => (p.1, ev s p.2)) = vs.toList.map (fun p => (p.1, some p.2))) (hr : (Instr.buildSlice t m vs).run P w = .ok v (w.alloc (.cells z ty))) (h : ∀ w', Fr (fun _ => False) w w' ∧ Bx w' w.heap.size z ty → WL P ops N Q ((d, v) :: s) l w') : WL P ops N Q s (o :: l) w := O.bsl hop hd hN hg hu hr (h _ ⟨fr_al (Fr.refl _ _) _, Bx.new _ _ _⟩)

section

variable {α : Type} {P : Program} {B : Nat} {e : TypeId} {c : Nat} {f : α → List Value} {w w' W : World} {v : Value} {xs : List α}

end

theorem O.clr {P : Program} {ops : Array Oper} {N : ND} {Q : Exit → Act → World → Prop} {s : List (Nat × Value)} {l : List Oper} {o : Oper} {w : World} {x : Operand} {t : TypeId} {u : Value} {R : World → Prop} (hop : o.op = .call ⟨.builtin .clear, #[x], #[t]⟩) (hd : o.dst = none) (hg : gd ops s o = some true) (hu : ev s x = some u) (hr : ∃ w', (Builtin.clear_ #[t] o.type #[u]).run P w = .ok (.tuple #[]) w' ∧ R w') (h : ∀ w', R w' → WL P ops N Q s l w') : WL P ops N Q s (o :: l) w := fun a k => by
  obtain ⟨w', h1, h2⟩ := hr
  have hv := k.eval hu
  unfold wpList
  rw [gd_wanted k hg, if_pos rfl]
  refine .inl ?_
  unfold Oper.wp
  have he : (execOp a.eval o).run P w = .ok (.value (.tuple #[])) w' := by
    unfold execOp
    rw [hop]
    generalize a.eval = e at *
    simp [go_sem, hv, h1]
  rw [he]
  unfold Oper.upon
  rw [hd]
  exact h w' h2 a k

theorem O.nck {P : Program} {ops : Array Oper} {N : ND} {Q : Exit → Act → World → Prop} {s : List (Nat × Value)} {l : List Oper} {o : Oper} {d : Nat} {w : World} {x : Operand} {p : Addr} (hop : o.op = .nilCheck x) (hd : o.dst = some d) (hN : Nat.blt d N.n = true) (hg : gd ops s o = some true) (hu : ev s x = some (.pointer (some p))) (h : WL P ops N Q ((d, .pointer (some p)) :: s) l w) : WL P ops N Q s (o :: l) w :=
  WL.run hd hN hg (fun a k => run_nck hop (k.eval hu)) h

theorem RH.nck {P : Program} {S : World → Prop} {N : ND} {s : List (Nat × Value)} {o : Oper} {x : Operand} {p : Addr} (hop : o.op = .nilCheck x) (hu : ev s x = some (.pointer (some p))) : ∀ a, Kn N s a → ∀ w, S w → (execOp a.eval o).run P w = .ok (.value (.pointer (some p))) w := fun a k w _ => run_nck hop (k.eval hu)

theorem Q.nck {P : Program} {C : World → Prop} {N : ND} {s : List (Nat × Value)} {o : Oper} {x : Operand} {p : Addr} (hop : o.op = .nilCheck x) (hu : ev s x = some (.pointer (some p))) : ∀ a, Kn N s a → ∀ w, C w → o.quietAt P a C w (.pointer (some p)) := fun a k w _ => quietAt_of (run_nck hop (k.eval hu))

section

variable {α : Type} {P : Program} {B : Nat} {e : TypeId} {c : Nat} {f : α → List Value} {w w' W : World} {v : Value} {xs : List α}

end

theorem O.copy {P : Program} {ops : Array Oper} {N : ND} {Q : Exit → Act → World → Prop} {s : List (Nat × Value)} {l : List Oper} {o : Oper} {d : Nat} {w : World} {x y : Operand} {t t' : TypeId} {u v : Value} {R : Value → World → Prop} (hop : o.op = .call { callee := .builtin .copy, args := #[x, y], argTypes := #[t, t'] }) (hd : o.dst = some d) (hN : Nat.blt d N.n = true) (hg : gd ops s o = some true) (hu : ev s x = some u) (hv : ev s y = some v) (hr : ∃ v' w', (Builtin.copy_ #[t, t'] o.type #[u, v]).run P w = .ok v' w' ∧ R v' w') (h : ∀ v' w', R v' w' → WL P ops N Q ((d, v') :: s) l w') : WL P ops N Q s (o :: l) w := fun a k => by
  have h1 := k.eval hu
  have h2 := k.eval hv
  obtain ⟨v', w', hq, hR⟩ := hr
  unfold wpList
  rw [gd_wanted k hg, if_pos rfl]
  refine .inl ?_
  unfold Oper.wp execOp
  simp only [hop, resolve, invoke, builtin, Sem.run_bind, Sem.run_pure, Result.andThen_ok, List.map_toArray, List.map_cons, List.map_nil, h1, h2, hq]
  unfold Oper.upon
  rw [hd]
  exact h v' w' hR _ (k.put hN _)

abbrev KnOf := @Kn
section
variable {P : Program} {ops : Array Oper} {N : ND} {Q : Exit → Act → World → Prop} {s : List (Nat × Value)} {l : List Oper} {o : Oper} {w : World} {fn : Func} {R : Ending → World → Prop}
theorem calls_tw {f : FuncId} {c : Code} {args : Array Value} {n : Nat} (hf : P.funcs[f]? = some fn) (hc : fn.body = some c) (hn : fn.ntmps = n) (hs : args.size ≤ n) (h : TW P ⟨n, []⟩ (bodyPostD P fn R) (args.toList.zipIdx.map (fun p => (p.2, p.1))) c w) : Calls P f args w R := by
  subst hn
  refine calls_of_wp_defers hf hc (h _ ⟨by simp; omega, rfl, fun i v e => ?_⟩)
  have key : ∀ (l : List Value) (m i : Nat) (v : Value), lk ((l.zipIdx m).map (fun p => (p.2, p.1))) i = some v → m ≤ i ∧ l[i - m]? = some v := by
    intro l
    induction l with
    | nil => intro m i v e; simp [lk] at e
    | cons u l ih =>
      intro m i v e
      simp only [List.zipIdx_cons, List.map_cons, lk] at e
      by_cases hmi : m = i
      · subst hmi
        rw [show Nat.beq m m = true from Nat.beq_refl m] at e
        simpa using e
      · rw [beq_no hmi] at e
        obtain ⟨h1, h2⟩ := ih (m + 1) i v e
        refine ⟨by omega, ?_⟩
        rw [show i - m = (i - (m + 1)) + 1 by omega, List.getElem?_cons_succ]
        exact h2
  have := (key args.toList 0 i v e).2
  simp only [Nat.sub_zero, Array.getElem?_toList] at this
  obtain ⟨hlt, _⟩ := Array.getElem?_eq_some_iff.1 this
  rw [Array.getElem?_append_left hlt]
  exact this
/-- A call is deferred. -/
theorem O.defer {fn : Fn} {first cap : Array Value} {g : Operand} {t : Array TypeId} (hop : o.op = .defer ⟨.value g, #[], t⟩) (hd : o.dst = none) (hg : gd ops s o = some true) (hu : ev s g = some (.func fn first cap)) (h : WL P ops ⟨N.n, { target := .fn fn cap, args := first } :: N.ds⟩ Q s l w) : WL P ops N Q s (o :: l) w := fun a k => by
  have hv := k.eval hu
  unfold wpList
  rw [gd_wanted k hg, if_pos rfl]
  refine .inl ?_
  unfold Oper.wp
  have he : (execOp a.eval o).run P w = .ok (.defer { target := .fn fn cap, args := first }) w := by
    unfold execOp
    rw [hop]
    generalize a.eval = e at *
    simp [go_sem, hv, resolve]
  rw [he]
  unfold Oper.upon
  rw [hd]
  refine h _ ⟨by simpa [Act.put] using k.size, ?_, fun i v e => by simpa [Act.put] using k.has i v e⟩
  simp [Act.put, k.defers]
/-- The way out: what is deferred is called. -/
theorem Xw.retL (h : ∀ a, Kn N s a → Leaves P fn a.tmps R N.ds .returning w) : Xw .ret N (bodyPostD P fn R) s w := fun a k => by
  show Leaves P fn a.tmps R a.defers .returning w
  rw [k.defers]
  exact h a k
theorem Xw.panL {c : List PanicEntry} (h : ∀ a, Kn N s a → Leaves P fn a.tmps R N.ds (.panicking c) w) : Xw (.panic c) N (bodyPostD P fn R) s w := fun a k => by
  show Leaves P fn a.tmps R a.defers (.panicking c) w
  rw [k.defers]
  exact h a k
end
end Go.Proofs.Ytcombjhkbjbncaa.D
