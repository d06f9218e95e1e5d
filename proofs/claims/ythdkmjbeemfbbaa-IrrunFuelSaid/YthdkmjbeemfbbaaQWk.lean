/-
  A walk over a frame of which some slots are known: the frame itself is a variable, what is known of it a short list.
-/
import Derived.Deep.Quiet
import Derived.Test.YthdkmjbeemfbbaaQFr
namespace Go.Proofs.Ythdkmjbeemfbbaa
open Go.RowKit
set_option linter.unusedVariables false
set_option linter.unusedSimpArgs false
theorem beq_no {d i : Nat} (h : ¬d = i) : Nat.beq d i = false := by
  cases q : Nat.beq d i
  · rfl
  · exact absurd (Nat.eq_of_beq_eq_true q) h
def lk : List (Nat × Value) → Nat → Option Value
  | [], _ => none
  | p :: l, i => match Nat.beq p.1 i with
    | true => some p.2
    | false => lk l i
def ev (s : List (Nat × Value)) : Operand → Option Value
  | .tmp t => lk s t
  | .const v => some v
  | .global g => some (.pointer (some ⟨g, 0, none⟩))
  | .func f => some (.func (.func f) #[] #[])
structure Kn (N : Nat) (s : List (Nat × Value)) (a : Act) : Prop where
  size : a.tmps.size = N
  defers : a.defers = []
  has : ∀ i v, lk s i = some v → a.tmps[i]? = some v
theorem Kn.eval {N : Nat} {s : List (Nat × Value)} {a : Act} (h : Kn N s a) {x : Operand} {v : Value} (e : ev s x = some v) : a.eval x = v := by
  cases x with
  | tmp t =>
    have := h.has t v e
    simp only [Act.eval, Array.getD_eq_getD_getElem?, this, Option.getD_some]
  | const u => simpa [ev, Act.eval] using e
  | global g => simp only [ev, Option.some.injEq] at e; subst e; rfl
  | func f => simp only [ev, Option.some.injEq] at e; subst e; rfl
theorem Kn.put {N : Nat} {s : List (Nat × Value)} {a : Act} (h : Kn N s a) {d : Nat} (hd : Nat.blt d N = true) (v : Value) : Kn N ((d, v) :: s) (a.put (some d) v) := by
  have hd' : d < N := by simpa [Nat.blt_eq] using hd
  refine ⟨by simp [Act.put, h.size], h.defers, fun i u e => ?_⟩
  simp only [lk] at e
  by_cases hdi : d = i
  · subst hdi
    rw [show Nat.beq d d = true from Nat.beq_refl d] at e
    simp only [Option.some.injEq] at e
    subst e
    simp [Act.put, h.size, hd']
  · rw [beq_no hdi] at e
    have := h.has i u e
    simpa [Act.put, Array.getElem?_setIfInBounds, hdi] using this
theorem Kn.base {N : Nat} {s : List (Nat × Value)} {a : Act} (h : Kn N s a) : Kn N [] a := ⟨h.size, h.defers, fun i v e => by simp [lk] at e⟩
theorem Kn.cons {N : Nat} {s t : List (Nat × Value)} {a : Act} (h : Kn N s a) {i : Nat} {v : Value} (e : lk s i = some v) (k : Kn N t a) : Kn N ((i, v) :: t) a := by
  refine ⟨h.size, h.defers, fun j u ej => ?_⟩
  simp only [lk] at ej
  by_cases hij : i = j
  · subst hij
    rw [show Nat.beq i i = true from Nat.beq_refl i] at ej
    simp only [Option.some.injEq] at ej
    subst ej
    exact h.has _ _ e
  · rw [beq_no hij] at ej
    exact k.has _ _ ej
def gd (ops : Array Oper) (s : List (Nat × Value)) (o : Oper) : Option Bool :=
  match o.guard with
  | none => some true
  | some (i, p) => match ((ops[i]?).bind (·.dst)).bind (lk s) with
    | some (.bool c) => some (c == p)
    | some _ => some false
    | none => none
theorem gd_wanted {ops : Array Oper} {N : Nat} {s : List (Nat × Value)} {o : Oper} {a : Act} {b : Bool} (h : Kn N s a) (e : gd ops s o = some b) : Region.wanted o (yielded ops a.tmps) = b := by
  unfold gd at e
  unfold Region.wanted
  cases hg : o.guard with
  | none => rw [hg] at e; simpa using e
  | some q =>
    obtain ⟨i, p⟩ := q
    rw [hg] at e
    simp only at e ⊢
    unfold yielded
    cases hd : (ops[i]?).bind (·.dst) with
    | none => rw [hd] at e; simp at e
    | some d =>
      rw [hd] at e
      simp only [Option.bind_some] at e ⊢
      cases hl : lk s d with
      | none => rw [hl] at e; simp at e
      | some v =>
        rw [hl] at e
        rw [h.has d v hl]
        cases v <;> simp_all
def W (P : Program) (ops : Array Oper) (C : World → Prop) (N : Nat) (Q : Act → Prop) (s : List (Nat × Value)) (l : List Oper) : Prop := ∀ a, Kn N s a → wpQuiet P ops C Q l a
section
variable {P : Program} {ops : Array Oper} {C : World → Prop} {N : Nat} {Q : Act → Prop} {s : List (Nat × Value)} {l : List Oper} {o : Oper} {d : Nat}
theorem W.nil (h : ∀ a, Kn N s a → Q a) : W P ops C N Q s [] := fun a k => wpQuiet_nil (h a k)
theorem W.skip (hd : o.dst = some d) (hN : Nat.blt d N = true) (hg : gd ops s o = some false) (h : W P ops C N Q ((d, undef) :: s) l) : W P ops C N Q s (o :: l) := fun a k => by
  unfold wpQuiet
  rw [gd_wanted k hg, hd]
  exact h _ (k.put hN _)
theorem W.op {v : Value} (hd : o.dst = some d) (hN : Nat.blt d N = true) (hg : gd ops s o = some true) (hy : ∀ a, Kn N s a → ∀ w, C w → o.quietAt P a C w v) (h : W P ops C N Q ((d, v) :: s) l) : W P ops C N Q s (o :: l) := fun a k => by
  unfold wpQuiet
  rw [gd_wanted k hg, if_pos rfl]
  exact ⟨v, hy a k, by rw [hd]; exact h _ (k.put hN _)⟩
theorem wpQuiet_mono {Q' : Act → Prop} (hq : ∀ a, Q a → Q' a) : ∀ (l : List Oper) (a : Act), wpQuiet P ops C Q l a → wpQuiet P ops C Q' l a
  | [], a, h => hq a h
  | o :: l, a, h => by
    unfold wpQuiet at h ⊢
    by_cases hw : Region.wanted o (yielded ops a.tmps) = true
    · rw [if_pos hw] at h ⊢; exact Oper.quiet_mono (fun a => wpQuiet_mono hq l a) h
    · rw [if_neg hw] at h ⊢; exact wpQuiet_mono hq l _ h
theorem wpQuiet_app (l2 : List Oper) : ∀ (l : List Oper) (a : Act), wpQuiet P ops C (wpQuiet P ops C Q l2) l a → wpQuiet P ops C Q (l ++ l2) a
  | [], a, h => h
  | o :: l, a, h => by
    rw [List.cons_append]
    unfold wpQuiet at h ⊢
    by_cases hw : Region.wanted o (yielded ops a.tmps) = true
    · rw [if_pos hw] at h ⊢; exact Oper.quiet_mono (fun a => wpQuiet_app l2 l a) h
    · rw [if_neg hw] at h ⊢; exact wpQuiet_app l2 l _ h
theorem W.cut (n : Nat) (s' : List (Nat × Value)) (h : W P ops C N (Kn N s') s (l.take n)) (k : W P ops C N Q s' (l.drop n)) : W P ops C N Q s l := fun a ha => by
  have := wpQuiet_app (Q := Q) (l.drop n) (l.take n) a (wpQuiet_mono (fun b hb => k b hb) _ _ (h a ha))
  rwa [List.take_append_drop] at this
theorem W.quiet_move {x : Operand} {v : Value} (hop : o.op = .move x) (hv : ev s x = some v) : ∀ a, Kn N s a → ∀ w, C w → o.quietAt P a C w v := fun a k w _ => by
  unfold Oper.quietAt execOp; rw [hop]; exact ⟨rfl, k.eval hv⟩
theorem W.quiet_assign {x : Operand} {v : Value} (hop : o.op = .assign x) (hv : ev s x = some v) : ∀ a, Kn N s a → ∀ w, C w → o.quietAt P a C w v := fun a k w _ => by
  unfold Oper.quietAt execOp; rw [hop]; exact ⟨rfl, k.eval hv⟩
theorem W.quiet_pick {x y z : Operand} {b : Bool} {v : Value} (hop : o.op = .pick x y z) (hb : ev s x = some (.bool b)) (hv : ev s (if b then y else z) = some v) : ∀ a, Kn N s a → ∀ w, C w → o.quietAt P a C w v := fun a k w _ => by
  have h1 := k.eval hb
  have h2 := k.eval hv
  unfold Oper.quietAt execOp
  rw [hop]
  generalize a.eval = e at *
  cases b
  · simp only [Bool.false_eq_true, if_false] at h2
    simp [go_sem, Oper.quietUpon, h1, h2]
  · simp only [if_true] at h2
    simp [go_sem, Oper.quietUpon, h1, h2]
theorem quietAt_of {a : Act} {w : World} {v : Value} (h : (execOp a.eval o).run P w = .ok (.value v) w) : o.quietAt P a C w v := by
  unfold Oper.quietAt; rw [h]; exact ⟨rfl, rfl⟩
theorem W.quiet_field {t : TypeId} {x : Operand} {j : Nat} {u v : Value} (hop : o.op = .fieldAddr t x j) (hu : ev s x = some u) (hr : ∀ w, (Instr.fieldAt t u j).run P w = .ok v w) : ∀ a, Kn N s a → ∀ w, C w → o.quietAt P a C w v := fun a k w _ => by
  refine quietAt_of ?_
  unfold execOp
  rw [hop]
  simp only [k.eval hu, Sem.run_bind, hr, Result.andThen_ok, Sem.run_pure]
theorem W.quiet_load {t : TypeId} {x : Operand} {u v : Value} (hop : o.op = .load t x) (hu : ev s x = some u) (hr : ∀ w, C w → (Instr.loadAt t u).run P w = .ok v w) : ∀ a, Kn N s a → ∀ w, C w → o.quietAt P a C w v := fun a k w hw => by
  refine quietAt_of ?_
  unfold execOp
  rw [hop]
  simp only [k.eval hu, Sem.run_bind, hr w hw, Result.andThen_ok, Sem.run_pure]
theorem W.quiet_index {t : TypeId} {x y : Operand} {u i v : Value} (hop : o.op = .indexAddr t x y) (hu : ev s x = some u) (hi : ev s y = some i) (hr : ∀ w, (Instr.indexAt t u i).run P w = .ok v w) : ∀ a, Kn N s a → ∀ w, C w → o.quietAt P a C w v := fun a k w _ => by
  refine quietAt_of ?_
  unfold execOp
  rw [hop]
  simp only [k.eval hu, k.eval hi, Sem.run_bind, hr, Result.andThen_ok, Sem.run_pure]
theorem W.quiet_not {t : TypeId} {x : Operand} {b : Bool} (hop : o.op = .unOp .not t x) (hu : ev s x = some (.bool b)) : ∀ a, Kn N s a → ∀ w, C w → o.quietAt P a C w (.bool (!b)) := fun a k w _ => by
  refine quietAt_of ?_
  unfold execOp
  rw [hop]
  simp only [k.eval hu]
  simp [go_sem]
theorem W.quiet_bin {b : BinOp} {t r : TypeId} {x y : Operand} {u u' v : Value} (hop : o.op = .binOp b t x y r) (hu : ev s x = some u) (hu' : ev s y = some u') (hr : ∀ w, (do eqGuard b t x y u u'; binOp b t u u' : Sem Value).run P w = .ok v w) : ∀ a, Kn N s a → ∀ w, C w → o.quietAt P a C w v := fun a k w _ => by
  refine quietAt_of ?_
  unfold execOp
  rw [hop]
  have := hr w
  simp only [k.eval hu, k.eval hu', Sem.run_bind] at this ⊢
  rw [this]
  simp [go_sem]
theorem evs {a : Act} {xs : Array Operand} {vs : Array Value} (k : Kn N s a) (hu : xs.toList.map (ev s) = vs.toList.map some) : xs.map a.eval = vs := by
  apply Array.toList_inj.1
  rw [Array.toList_map]
  revert hu
  generalize xs.toList = l
  generalize vs.toList = m
  induction l generalizing m with
  | nil => intro hu; cases m <;> simp_all
  | cons x l ih =>
    intro hu
    cases m with
    | nil => simp at hu
    | cons y m =>
      simp only [List.map_cons, List.cons.injEq] at hu ⊢
      exact ⟨k.eval hu.1, ih m hu.2⟩
end
def T (P : Program) (C : World → Prop) (N : Nat) (Q : Exit → Act → World → Prop) (s : List (Nat × Value)) (c : Code) : Prop := ∀ a w, Kn N s a → C w → c.wp P Q a w
section
variable {P : Program} {C : World → Prop} {N : Nat} {Q : Exit → Act → World → Prop} {s : List (Nat × Value)} {l : List Oper} {x y : Code} {id : Nat}
theorem wpList_of_quiet {ops : Array Oper} {K : Act → Prop} (hK : ∀ a w, C w → K a → Q .normal a w) : ∀ (l : List Oper) (a : Act) (w : World), C w → wpQuiet P ops C K l a → wpList P ops Q l a w
  | [], a, w, hw, h => wpList_nil (hK a w hw h)
  | o :: l, a, w, hw, h => by
    unfold wpList
    unfold wpQuiet at h
    split at h
    · rename_i hg; rw [if_pos hg]; exact .inl (Oper.wp_of_quiet hw (fun a w' hw' k => wpList_of_quiet hK l a w' hw' k) h)
    · rename_i hg; rw [if_neg hg]; exact wpList_of_quiet hK l _ w hw h
theorem T.seq (h : T P C N (Exit.then (y.wp P Q) Q) s x) : T P C N Q s (.seq x y) := fun a w k hw => wp_seq (h a w k hw)
theorem T.skip (h : T P C N Q s y) : T P C N (Exit.then (y.wp P Q) Q) s .skip := fun a w k hw => wp_skip (h a w k hw)
theorem T.reg (h : W P l.toArray C N (fun a => ∀ w, C w → Q .normal a w) s l) : T P C N Q s (.region id l.toArray false) := fun a w k hw => wp_region_lit (wpList_of_quiet (fun a w hw q => q w hw) l a w hw (h a k))
theorem T.regD (hm : P.follows .mixedOrders = true) (hB : Region.lexB .any l.toArray = true) (hC : ∀ w, C w → C w.drew) (h : W P l.toArray C N (fun a => ∀ w, C w → Q .normal a w) s l) : T P C N Q s (.region id l.toArray true) := fun a w k hw => wp_region_quiet hm hB (hC w hw) (by simpa using h a k)
/-- A region ahead of the rest. -/
theorem T.sreg (s' : List (Nat × Value)) (h : W P l.toArray C N (Kn N s') s l) (k : T P C N Q s' y) : T P C N Q s (.seq (.region id l.toArray false) y) :=
  T.seq (T.reg fun a ka => wpQuiet_mono (fun b hb w hw => k b w hb hw) _ _ (h a ka))
theorem T.cond {c : Operand} {b : Bool} (hv : ev s c = some (.bool b)) (ht : b = true → T P C N Q s x) (hf : b = false → T P C N Q s y) : T P C N Q s (.cond c x y) := fun a w k hw => by
  refine wp_cond (k.eval hv) ?_
  cases b
  · exact hf rfl a w k hw
  · exact ht rfl a w k hw
/-- What an end of another kind asks. -/
def Xt (e : Exit) (C : World → Prop) (N : Nat) (Q : Exit → Act → World → Prop) (s : List (Nat × Value)) : Prop := ∀ a w, Kn N s a → C w → Q e a w
abbrev Rt (C : World → Prop) (N : Nat) (Q : Exit → Act → World → Prop) (s : List (Nat × Value)) : Prop := Xt .ret C N Q s
theorem Rt.thn {K : Act → World → Prop} (h : Xt .ret C N Q s) : Xt .ret C N (Exit.then K Q) s := h
theorem Rt.blk {id : Nat} (h : Xt .ret C N Q s) : Xt .ret C N (Exit.inBlock id Q) s := h
theorem Xt.thn {id : Nat} {K : Act → World → Prop} (h : Xt (.exit id) C N Q s) : Xt (.exit id) C N (Exit.then K Q) s := h
theorem Xt.hit (h : Xt .normal C N Q s) : Xt (.exit id) C N (Exit.inBlock id Q) s := fun a w k hw => by
  have := h a w k hw
  simpa [Exit.inBlock] using this
theorem Xt.nblk (h : Xt .normal C N Q s) : Xt .normal C N (Exit.inBlock id Q) s := h
theorem Xt.nrm (h : T P C N Q s y) : Xt .normal C N (Exit.then (y.wp P Q) Q) s := h
theorem T.skipx (h : Xt .normal C N Q s) : T P C N Q s .skip := fun a w k hw => wp_skip (h a w k hw)
theorem T.exit (h : Xt (.exit id) C N Q s) : T P C N Q s (.exit id) := fun a w k hw => wp_exit (h a w k hw)
theorem T.block (h : T P C N (Exit.inBlock id Q) s x) : T P C N Q s (.block id x) := fun a w k hw => wp_block (h a w k hw)
/-- A loop that counts in slot t. -/
theorem T.loop {t n : Nat} (I : Nat → List (Nat × Value)) (J : Nat → Prop) (hl : ∀ j : Nat, lk (I j) t = some (.int .i64 (j : Int))) (hs : ∀ a, Kn N s a → Kn N (I 0) a) (h0 : J 0)
    (round : ∀ j, j ≤ n → J j → T P C N (Exit.then (fun a w => ∃ j', j < j' ∧ j' ≤ n ∧ J j' ∧ Kn N (I j') a ∧ C w) Q) (I j) x) : T P C N Q s (.loop x) := fun a w k hw => by
  have val : ∀ (a : Act) (j : Nat), Kn N (I j) a → (intOf (a.tmps.getD t undef)).toNat = j := fun a j k => by
    have := k.has t _ (hl j)
    simp [Array.getD_eq_getD_getElem?, this, intOf]
  refine wp_loop (fun a w => ∃ j, j ≤ n ∧ J j ∧ Kn N (I j) a ∧ C w) (fun a w => n - (intOf (a.tmps.getD t undef)).toNat) ⟨0, Nat.zero_le _, h0, hs a k, hw⟩ ?_
  rintro a w ⟨j, hj, hJ, hk, hC⟩
  refine wp_mono (round j hj hJ a w hk hC) ?_
  intro e a' w' q
  cases e with
  | normal =>
    obtain ⟨j', h1, h2, h3, h4, h5⟩ := q
    refine ⟨⟨j', h2, h3, h4, h5⟩, ?_⟩
    simp only [val a j hk, val a' j' h4]
    omega
  | exit id => exact q
  | goto l => exact q
  | ret => exact q
  | panic ch => exact q
  | outgrown => exact q
theorem T.ret (h : Rt C N Q s) : T P C N Q s .ret := fun a w k hw => wp_ret (h a w k hw)
theorem T.sub {s' : List (Nat × Value)} (h : T P C N Q s' x) (hs : ∀ a, Kn N s a → Kn N s' a) : T P C N Q s x := fun a w k hw => h a w (hs a k) hw
end
def WL (P : Program) (ops : Array Oper) (N : Nat) (Q : Exit → Act → World → Prop) (s : List (Nat × Value)) (l : List Oper) (w : World) : Prop := ∀ a, Kn N s a → wpList P ops Q l a w
def TW (P : Program) (N : Nat) (Q : Exit → Act → World → Prop) (s : List (Nat × Value)) (c : Code) (w : World) : Prop := ∀ a, Kn N s a → c.wp P Q a w
section
variable {P : Program} {ops : Array Oper} {N : Nat} {Q : Exit → Act → World → Prop} {s : List (Nat × Value)} {l : List Oper} {o : Oper} {d : Nat} {w : World} {x y : Code} {id : Nat}
theorem WL.nil (h : TW P N Q s y w) : WL P ops N (Exit.then (y.wp P Q) Q) s [] w := fun a k => wpList_nil (h a k)
theorem WL.done (h : ∀ a, Kn N s a → Q .normal a w) : WL P ops N Q s [] w := fun a k => wpList_nil (h a k)
theorem WL.skip (hd : o.dst = some d) (hN : Nat.blt d N = true) (hg : gd ops s o = some false) (h : WL P ops N Q ((d, undef) :: s) l w) : WL P ops N Q s (o :: l) w := fun a k => by
  unfold wpList
  rw [gd_wanted k hg, hd]
  exact h _ (k.put hN _)
theorem WL.op {v : Value} (hd : o.dst = some d) (hN : Nat.blt d N = true) (hg : gd ops s o = some true) (hy : ∀ a, Kn N s a → ∀ W, W = w → o.quietAt P a (fun W => W = w) W v) (h : WL P ops N Q ((d, v) :: s) l w) : WL P ops N Q s (o :: l) w := fun a k => by
  unfold wpList
  rw [gd_wanted k hg, if_pos rfl]
  exact .inl (Oper.wp_of_quiet (C := fun W => W = w) (K := wpQuiet P ops (fun W => W = w) (fun b => wpList P ops Q l b w) []) rfl (fun b W hW q => by rw [hW]; exact q) ⟨v, hy a k, by rw [hd]; exact h _ (k.put hN _)⟩)
theorem WL.run {v : Value} {w' : World} (hd : o.dst = some d) (hN : Nat.blt d N = true) (hg : gd ops s o = some true) (hr : ∀ a, Kn N s a → (execOp a.eval o).run P w = .ok (.value v) w') (h : WL P ops N Q ((d, v) :: s) l w') : WL P ops N Q s (o :: l) w := fun a k => by
  unfold wpList
  rw [gd_wanted k hg, if_pos rfl]
  refine .inl ?_
  unfold Oper.wp
  rw [hr a k]
  unfold Oper.upon
  rw [hd]
  exact h _ (k.put hN _)
theorem WL.box {t : TypeId} {e : Operand} {u v : Value} {w' : World} (hop : o.op = .box t e) (hd : o.dst = some d) (hN : Nat.blt d N = true) (hg : gd ops s o = some true) (hu : ev s e = some u) (hr : (Instr.box t u).run P w = .ok v w') (h : WL P ops N Q ((d, v) :: s) l w') : WL P ops N Q s (o :: l) w :=
  WL.run hd hN hg (fun a k => by
    have h1 := k.eval hu
    unfold execOp
    rw [hop]
    simp only [h1, Sem.run_bind, hr, Result.andThen_ok, Sem.run_pure]) h
theorem WL.alloc {t : TypeId} {v : Value} {w' : World} (hop : o.op = .alloc t) (hd : o.dst = some d) (hN : Nat.blt d N = true) (hg : gd ops s o = some true) (hr : (Instr.alloc t true (.tuple #[])).run P w = .ok v w') (h : WL P ops N Q ((d, v) :: s) l w') : WL P ops N Q s (o :: l) w :=
  WL.run hd hN hg (fun a k => by
    unfold execOp
    rw [hop]
    simp only [Sem.run_bind, hr, Result.andThen_ok, Sem.run_pure]) h
theorem WL.store {t : TypeId} {e x : Operand} {u v : Value} {w' : World} (hop : o.op = .store t e x) (hd : o.dst = none) (hg : gd ops s o = some true) (hu : ev s e = some u) (hv : ev s x = some v) (hr : (Instr.storeAt t u v).run P w = .ok () w') (h : WL P ops N Q s l w') : WL P ops N Q s (o :: l) w := fun a k => by
  have h1 := k.eval hu
  have h2 := k.eval hv
  unfold wpList
  rw [gd_wanted k hg, if_pos rfl]
  refine .inl ?_
  unfold Oper.wp execOp
  rw [hop]
  simp only [h1, h2, Sem.run_bind, hr, Result.andThen_ok, Sem.run_pure]
  unfold Oper.upon
  rw [hd]
  exact h a k
theorem WL.call {f : Nat} {xs ts : Array _} {vs : Array Value} {R : Ending → World → Prop} (hop : o.op = .call ⟨.value (.func f), xs, ts⟩) (hd : o.dst = some d) (hN : Nat.blt d N = true) (hg : gd ops s o = some true) (hu : xs.toList.map (ev s) = vs.toList.map some) (hc : ∀ w, (callFunc f vs).run P w = .ok (.enter f vs) w) (hr : Calls P f vs w R) (h : ∀ e w', R e w' → ∃ v, e = .returned v ∧ WL P ops N Q ((d, v) :: s) l w') : WL P ops N Q s (o :: l) w := fun a k => by
  have hm := evs k hu
  have hf : a.eval (.func f) = .func (.func f) #[] #[] := rfl
  unfold wpList
  rw [gd_wanted k hg, if_pos rfl]
  refine .inl ?_
  unfold Oper.wp
  have he : (execOp a.eval o).run P w = .ok (.enter f vs) w := by
    unfold execOp
    rw [hop]
    generalize a.eval = e at *
    simp [go_sem, hm, hf, hc]
  rw [he]
  unfold Oper.upon
  refine hr.mono fun e w' q => ?_
  obtain ⟨v, rfl, hv⟩ := h e w' q
  rw [hd]
  exact hv _ (k.put hN _)
theorem WL.append {x y : Operand} {t t' : TypeId} {u v : Value} {R : Value → World → Prop} (hop : o.op = .call { callee := .builtin .append, args := #[x, y], argTypes := #[t, t'] }) (hd : o.dst = some d) (hN : Nat.blt d N = true) (hg : gd ops s o = some true) (hu : ev s x = some u) (hv : ev s y = some v) (hr : ∃ v' w', (Builtin.append_ #[t, t'] o.type #[u, v]).run P w = .ok v' w' ∧ R v' w') (h : ∀ v' w', R v' w' → WL P ops N Q ((d, v') :: s) l w') : WL P ops N Q s (o :: l) w := fun a k => by
  have h1 := k.eval hu
  have h2 := k.eval hv
  obtain ⟨v', w', hq, hR⟩ := hr
  unfold wpList
  rw [gd_wanted k hg, if_pos rfl]
  refine .inl ?_
  unfold Oper.wp execOp
  simp only [hop, resolve, invoke, builtin, Sem.run_bind, Sem.run_pure, Result.andThen_ok, List.map_toArray, List.map_cons, List.map_nil, h1, h2, hq]
  unfold Oper.upon
  rw [hd]
  exact h v' w' hR _ (k.put hN _)
theorem TW.seq (h : TW P N (Exit.then (y.wp P Q) Q) s x w) : TW P N Q s (.seq x y) w := fun a k => wp_seq (h a k)
theorem TW.sreg (h : WL P l.toArray N (Exit.then (y.wp P Q) Q) s l w) : TW P N Q s (.seq (.region id l.toArray false) y) w :=
  TW.seq fun a k => wp_region_lit (h a k)
theorem TW.reg (h : WL P l.toArray N Q s l w) : TW P N Q s (.region id l.toArray false) w := fun a k => wp_region_lit (h a k)
theorem TW.to (C : World → Prop) (hC : C w) (h : T P C N Q s y) : TW P N Q s y w := fun a k => h a w k hC
theorem TW.skip (h : TW P N Q s y w) : TW P N (Exit.then (y.wp P Q) Q) s .skip w := fun a k => wp_skip (h a k)
theorem TW.cond {c : Operand} {b : Bool} (hv : ev s c = some (.bool b)) (ht : b = true → TW P N Q s x w) (hf : b = false → TW P N Q s y w) : TW P N Q s (.cond c x y) w := fun a k => by
  refine wp_cond (k.eval hv) ?_
  cases b
  · exact hf rfl a k
  · exact ht rfl a k
theorem TW.ret (h : Rt (fun W => W = w) N Q s) : TW P N Q s .ret w := fun a k => wp_ret (h a w k rfl)
theorem TW.app {a : Act} (h : TW P N Q s x w) (k : Kn N s a) : x.wp P Q a w := h a k
theorem T.tw {C : World → Prop} (h : ∀ w, C w → TW P N Q s x w) : T P C N Q s x := fun a w k hw => h w hw a k
theorem TW.block (h : TW P N (Exit.inBlock id Q) s x w) : TW P N Q s (.block id x) w := fun a k => wp_block (h a k)
/-- What an end of another kind asks, in one world. -/
def Xw (e : Exit) (N : Nat) (Q : Exit → Act → World → Prop) (s : List (Nat × Value)) (w : World) : Prop := ∀ a, Kn N s a → Q e a w
theorem Xw.thn {e : Exit} {K : Act → World → Prop} (he : e ≠ .normal) (h : Xw e N Q s w) : Xw e N (Exit.then K Q) s w := fun a k => by
  have := h a k
  cases e <;> first | exact this | exact absurd rfl he
theorem Xw.rblk (h : Xw .ret N Q s w) : Xw .ret N (Exit.inBlock id Q) s w := h
theorem Xw.hit (h : Xw .normal N Q s w) : Xw (.exit id) N (Exit.inBlock id Q) s w := fun a k => by
  have := h a k
  simpa [Exit.inBlock] using this
theorem Xw.nblk (h : Xw .normal N Q s w) : Xw .normal N (Exit.inBlock id Q) s w := h
theorem Xw.nrm (h : TW P N Q s y w) : Xw .normal N (Exit.then (y.wp P Q) Q) s w := h
theorem Xw.any {K : Act → World → Prop} (h : ∀ a, Kn N s a → K a w) : Xw .normal N (Exit.then K Q) s w := h
theorem TW.rt (h : Xw .ret N Q s w) : TW P N Q s .ret w := fun a k => wp_ret (h a k)
theorem TW.skipx (h : Xw .normal N Q s w) : TW P N Q s .skip w := fun a k => wp_skip (h a k)
theorem TW.exit (h : Xw (.exit id) N Q s w) : TW P N Q s (.exit id) w := fun a k => wp_exit (h a k)
theorem WL.end (h : Xw .normal N Q s w) : WL P ops N Q s [] w := fun a k => wpList_nil (h a k)
theorem bodyw_ret {fn : Func} {R : Ending → World → Prop} {t : Nat} {v : Value} (hr : fn.results = #[.tmp t]) (hv : lk s t = some v) (h : R (.returned v) w) : Xw .ret N (bodyPost P fn R) s w := fun a k => by
  refine ⟨k.defers, v, ?_, h⟩
  rw [results_tmp hr]
  have := k.has t v hv
  simp only [Array.getD_eq_getD_getElem?, this, Option.getD_some]
/-- A loop that counts in slot t, its invariant any relation on frame and world. -/
theorem TW.loop {t n : Nat} (I : Nat → Act → World → Prop) (ht : ∀ j a w, I j a w → a.tmps[t]? = some (.int .i64 (j : Int))) (h0 : ∀ a, Kn N s a → I 0 a w)
    (round : ∀ j a w, j ≤ n → I j a w → x.wp P (Exit.then (fun a w => ∃ j', j < j' ∧ j' ≤ n ∧ I j' a w) Q) a w) : TW P N Q s (.loop x) w := fun a k => by
  have val : ∀ (j : Nat) (a : Act) (w : World), I j a w → (intOf (a.tmps.getD t undef)).toNat = j := fun j a w h => by
    have := ht j a w h
    simp [Array.getD_eq_getD_getElem?, this, intOf]
  refine wp_loop (fun a w => ∃ j, j ≤ n ∧ I j a w) (fun a w => n - (intOf (a.tmps.getD t undef)).toNat) ⟨0, Nat.zero_le _, h0 a k⟩ ?_
  rintro a w ⟨j, hj, hI⟩
  refine wp_mono (round j a w hj hI) ?_
  intro e a' w' q
  cases e with
  | normal =>
    obtain ⟨j', h1, h2, h3⟩ := q
    refine ⟨⟨j', h2, h3⟩, ?_⟩
    simp only [val j a w hI, val j' a' w' h3]
    omega
  | exit id => exact q
  | goto l => exact q
  | ret => exact q
  | panic ch => exact q
  | outgrown => exact q
theorem WL.ld {t : TypeId} {e : Operand} {u v : Value} (hop : o.op = .load t e) (hd : o.dst = some d) (hN : Nat.blt d N = true) (hg : gd ops s o = some true) (hu : ev s e = some u) (hr : (Instr.loadAt t u).run P w = .ok v w) (h : WL P ops N Q ((d, v) :: s) l w) : WL P ops N Q s (o :: l) w :=
  WL.run hd hN hg (fun a k => by
    have h1 := k.eval hu
    unfold execOp
    rw [hop]
    simp only [h1, Sem.run_bind, hr, Result.andThen_ok, Sem.run_pure]) h
/-- A call, by its body. -/
theorem calls_tw {f : FuncId} {fn : Func} {c : Code} {args : Array Value} {R : Ending → World → Prop} (hf : P.funcs[f]? = some fn) (hc : fn.body = some c) (hn : fn.ntmps = N) (hs : args.size ≤ N) (h : TW P N (bodyPost P fn R) (args.toList.zipIdx.map (fun p => (p.2, p.1))) c w) : Calls P f args w R := by
  subst hn
  refine calls_of_wp hf hc (h _ ⟨by simp; omega, rfl, fun i v e => ?_⟩)
  have key : ∀ (l : List Value) (m i : Nat) (v : Value), lk ((l.zipIdx m).map (fun p => (p.2, p.1))) i = some v → m ≤ i ∧ l[i - m]? = some v := by
    intro l
    induction l with
    | nil => intro m i v e; simp [lk] at e
    | cons u l ih =>
      intro m i v e
      simp only [List.zipIdx_cons, List.map_cons, lk] at e
      by_cases hmi : m = i
      · subst hmi
        rw [show Nat.beq m m = true from Nat.beq_refl m] at e
        simpa using e
      · rw [beq_no hmi] at e
        obtain ⟨h1, h2⟩ := ih (m + 1) i v e
        refine ⟨by omega, ?_⟩
        rw [show i - m = (i - (m + 1)) + 1 by omega, List.getElem?_cons_succ]
        exact h2
  have := (key args.toList 0 i v e).2
  simp only [Nat.sub_zero, Array.getElem?_toList] at this
  obtain ⟨hlt, _⟩ := Array.getElem?_eq_some_iff.1 this
  rw [Array.getElem?_append_left hlt]
  exact this
end
end Go.Proofs.Ythdkmjbeemfbbaa
