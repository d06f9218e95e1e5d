/-
  Ranges over functions, over a frame of which some slots are known: the call of yield, the range itself, what abides.
-/
import Derived.Test.YtdkjeiemjnmdlaaMk
namespace Go.Proofs.Ytdkjeiemjnmdlaa.M
open Go.RowKit
set_option linter.unusedVariables false
set_option linter.unusedSimpArgs false
set_option linter.unnecessarySimpa false
/-- What turns is no cells, and lies at B or beyond. -/
def NC (W : World) (B : Nat) (F : Nat → Prop) : Prop := ∀ k, F k → B ≤ k ∧ ∃ o, W.heap[k]? = some o ∧ o.isCells = false
theorem NC.bx {W : World} {B : Nat} {F : Nat → Prop} (h : NC W B F) {g : Nat} {z : Array Value} {t : TypeId} (hb : Bx W g z t) : ¬F g := fun hf => by
  obtain ⟨_, o, ho, hc⟩ := h g hf
  rw [show W.heap[g]? = _ from hb] at ho
  cases ho
  simp [Obj.isCells] at hc
theorem NC.row {α : Type} {W : World} {B B' : Nat} {F : Nat → Prop} (h : NC W B F) {e : TypeId} {c : Nat} {f : α → List Value} {v : Value} {xs : List α} (hr : Row B' e c f W v xs) : ∀ k, v.ownBlock = some k → ¬F k := fun k hk hf => by
  obtain ⟨cur, hc⟩ := hr.typ k hk
  exact h.bx (show Bx W k cur e from hc) hf
theorem NC.lt {W : World} {B : Nat} {F : Nat → Prop} (h : NC W B F) {k : Nat} (hk : k < B) : ¬F k := fun hf => by
  have := (h k hf).1
  omega
theorem NC.cell {W W' : World} {B : Nat} {F : Nat → Prop} (h : NC W B F) (hf : Fr F W W') {a : Addr} {v : Value} (hc : W.cell? a = some v) : W'.cell? a = some v := by
  obtain ⟨o, ho, hcell⟩ := cells_of_cell hc
  refine hf.cell hc fun q => ?_
  obtain ⟨_, o', ho', hn⟩ := h _ q
  rw [ho] at ho'
  cases ho'
  rw [hcell] at hn
  cases hn
theorem NC.mono {W : World} {B B' : Nat} {F : Nat → Prop} (h : NC W B F) (hb : B' ≤ B) : NC W B' F := fun k hk => ⟨Nat.le_trans hb (h k hk).1, (h k hk).2⟩
theorem NC.ff {w W W' : World} {B : Nat} {F : Nat → Prop} (h : NC W B F) (ff : Fr (fun _ => False) w W) (hB : w.heap.size ≤ B) (hf : Fr F W W') : Fr (fun _ => False) w W' := ff.trans' hf (fun j hj e => by have := (h j e).1; omega)
theorem own_of {β : Type} {B : Nat} {I : β → World → Prop} (h : ∀ s W W' (F : Nat → Prop), I s W → Fr F W W' → NC W B F → I s W') : OwnFrom B I := fun s W W' row hs hg hr => h s W W' (fun k => row = some k) hs (Fr.of_by hg) hr
theorem abides_of {β : Type} {B : Nat} {I : β → World → Prop} (h : ∀ s W W' (F : Nat → Prop), I s W → Fr F W W' → NC W B F → I s W') : AbidesFrom B I := fun s W W' row hs hg hr => h s W W' (fun k => row = some k) hs (Fr.of_by hg) fun k hk => by
  obtain ⟨hB, o, ho, hw⟩ := hr k hk
  exact ⟨hB, o, ho, Obj.not_cells_of_walk hw⟩
/-- What is no cells lies as it lay. -/
theorem keeps0 {A B : World} (h : Fr (fun _ => False) A B) : KeepsOthers A B := ⟨h.size, fun k o hk _ => (h.block k (Array.getElem?_eq_some_iff.1 hk).1 id).trans hk⟩
theorem keepsF {A B : World} {F : Nat → Prop} (h : Fr F A B) (hc : ∀ k, F k → ∃ z t fz, A.heap[k]? = some (.cells z t fz)) : KeepsOthers A B := ⟨h.size, fun k o hk ho => (h.block k (Array.getElem?_eq_some_iff.1 hk).1 fun hf => by
  obtain ⟨z, t, fz, hz⟩ := hc k hf
  rw [hk] at hz
  cases hz
  simp [Obj.isCells] at ho).trans hk⟩
theorem keepsB {A B : World} {g : Nat} {z : Array Value} {t : TypeId} (h : Fr (fun q => q = g) A B) (hb : Bx A g z t) : KeepsOthers A B := keepsF h fun k e => by subst e; exact ⟨_, _, _, hb⟩
theorem keepsR {α : Type} {A B : World} {v : Value} {B' : Nat} {e : TypeId} {c : Nat} {f : α → List Value} {xs : List α} (h : Fr (fun q => v.ownBlock = some q) A B) (hr : Row B' e c f A v xs) : KeepsOthers A B := keepsF h fun k e => by
  obtain ⟨cur, hc⟩ := hr.typ k e
  exact ⟨_, _, _, hc⟩
theorem Mks.nc {ds : List Nat} {W W' : World} {B : Nat} {F : Nat → Prop} (h : Mks ds W) (hlt : ∀ d ∈ ds, d < B) (nc : NC W B F) (hf : Fr F W W') : Mks ds W' := h.fr hf fun d hd => nc.lt (hlt d hd)
theorem Mks.lt {ds : List Nat} {W : World} (h : Mks ds W) : ∀ d ∈ ds, d < W.heap.size := fun d hd => (Array.getElem?_eq_some_iff.1 (h.2 d hd)).1
theorem Mks.cons {ds : List Nat} {W : World} {D : Nat} (h : Mks ds W) (hlt : ∀ d ∈ ds, d < D) (hD : W.heap[D]? = some (.deferred (some []))) : Mks (D :: ds) W :=
  ⟨List.nodup_cons.2 ⟨fun q => by have := hlt D q; omega, h.1⟩, fun d hd => by
    rcases List.mem_cons.1 hd with rfl | q
    · exact hD
    · exact h.2 d q⟩
/-! ### The call of yield -/
def WLI (P : Program) (ops : Array Oper) (N : NM) (Q : Exit → Act → World → Prop) (s : List (Nat × Value)) (l : List Oper) (w : World) : Prop := ∀ a, Kn N s a → ¬LetsOut Q → wpListIn N.F N.d P ops Q l a w
section
variable {P : Program} {ops : Array Oper} {N : NM} {Q : Exit → Act → World → Prop} {s : List (Nat × Value)} {l : List Oper} {o : Oper} {d : Nat} {w : World} {x y : Code} {id : Nat}
theorem TW.regI (h : WLI P l.toArray N Q s l w) : TW P N Q s (.region id l.toArray false) w := fun a k hq => wpIn_region_lit (h a k hq)
theorem TW.sregI (h : WLI P l.toArray N (Exit.then (WP N P Q y) Q) s l w) : TW P N Q s (.seq (.region id l.toArray false) y) w := TW.seq (TW.regI h)
theorem lift_part {Q : Exit → Act → World → Prop} {l2 : List Oper} (hq : ¬LetsOut Q) : ∀ (l : List Oper), (∀ o ∈ l, ∀ c, o.op ≠ .defer c) → ∀ a w, wpList P ops (Exit.then (fun a w => ¬LetsOut Q → wpListIn N.F N.d P ops Q l2 a w) Q) l a w → wpListIn N.F N.d P ops Q (l ++ l2) a w
  | [], _, a, w, h => (h : ¬LetsOut Q → wpListIn N.F N.d P ops Q l2 a w) hq
  | o :: l, hd, a, w, h => by
    rw [List.cons_append]
    unfold wpList at h
    unfold wpListIn
    split at h
    · rename_i hg
      rw [if_pos hg]
      rcases h with h | h
      · have h1 := lift_op (N := N) (hd o (by simp)) (lift_part hq l fun o ho => hd o (by simp [ho])) h
        refine ⟨h1.1, ?_⟩
        have h2 := h1.2
        revert h2
        generalize (o.semAt N.F.round a.eval).run P w = r
        intro h2
        unfold Oper.uponIn at h2 ⊢
        split at h2
        · exact h2
        · exact h2
        · exact h2
        · refine ⟨h2.1, h2.2.mono fun e w' q => ?_⟩
          cases e <;> exact q
        · exact h2
        · refine ⟨h2.1, h2.2.mono fun e w' q => ?_⟩
          cases e <;> exact q
        · exact h2
        · exact h2.elim
      · exact absurd h.2 (no_then hq)
    · rename_i hg
      rw [if_neg hg]
      exact ⟨fun _ _ => trivial, lift_part hq l (fun o ho => hd o (by simp [ho])) _ _ h⟩
theorem WLI.cut (n : Nat) (h : WL P ops N (Exit.then (fun a w => ¬LetsOut Q → wpListIn N.F N.d P ops Q (l.drop n) a w) Q) s (l.take n) w) (hd : nodef (l.take n) = true := by rfl) : WLI P ops N Q s l w := fun a k hq => by
  have := lift_part (P := P) (ops := ops) (N := N) hq (l.take n) (nodef_of hd) a w (h a k)
  rwa [List.take_append_drop] at this
theorem WL.toI {l2 : List Oper} (h : WLI P ops N Q s l2 w) : WL P ops N (Exit.then (fun a w => ¬LetsOut Q → wpListIn N.F N.d P ops Q l2 a w) Q) s [] w := fun a k => wpList_nil (fun hq => h a k hq)
theorem evl2 {a : Act} (k : Kn N s a) {xs : Array Operand} {vs : Array Value} (hu : xs.toList.map (ev s) = vs.toList.map some) : xs.map a.eval = vs := evs k hu
theorem WLI.yield {g : Operand} {lp : Nat} {xs ts : Array _} {vs : Array Value} {R : Ending → World → Prop} (hop : o.op = .call ⟨.value g, xs, ts⟩) (hd : o.dst = some d) (hN : Nat.blt d N.n = true) (hg : gd ops s o = some true) (hf : ev s g = some (.func (.yield lp) #[] #[])) (hu : xs.toList.map (ev s) = vs.toList.map some) (hY : YieldAt N.F (N.d - 1) P lp vs w R) (h : ∀ e w', R e w' → ∃ v, e = .returned v ∧ WLI P ops N Q ((d, v) :: s) l w') : WLI P ops N Q s (o :: l) w := fun a k hq => by
  obtain ⟨fn, tmps, assign, body, hy, hR⟩ := hY
  have hm := evs k hu
  have hf' := k.eval hf
  have he : (execOp a.eval o).run P w = .ok (.round lp fn tmps assign body) w := by
    unfold execOp
    rw [hop]
    subst hm
    generalize a.eval = e at *
    simp [go_sem, hf', hy]
  unfold wpListIn
  rw [gd_wanted k hg, if_pos rfl]
  refine ⟨fun _ _ => trivial, ?_⟩
  rw [Oper.semAt_eq _ _ _ (fun c e => by rw [hop] at e; cases e), he]
  unfold Oper.uponIn
  refine ⟨fun e => by simp [NM.F, Fence.wide] at e, hR.mono fun e w' q => ?_⟩
  obtain ⟨v, rfl, hv⟩ := h e w' q
  rw [hd]
  exact hv _ (k.put hN _) hq
theorem WLI.nil {N' : NM} (h : TW P N' Q s y w) (e1 : N'.ro = N.ro := by rfl) (e2 : N'.d = N.d := by rfl) : WLI P ops N' (Exit.then (WP N P Q y) Q) s [] w := fun a k hq => (WP.of (h a k) e1 e2 : WP N P Q y a w)
theorem WLI.end (h : Xw .normal N Q s w) : WLI P ops N Q s [] w := fun a k hq => h a k
theorem WLI.op {v : Value} (hd : o.dst = some d) (hN : Nat.blt d N.n = true) (hg : gd ops s o = some true) (hnd : ∀ c, o.op ≠ .defer c) (hy : ∀ a, Kn N s a → ∀ W, W = w → o.quietAt P a (fun W => W = w) W v) (h : WLI P ops N Q ((d, v) :: s) l w) : WLI P ops N Q s (o :: l) w := fun a k hq => by
  unfold wpListIn
  rw [gd_wanted k hg, if_pos rfl]
  refine lift_op (N := N) (next := fun b W => b = a.put (some d) v ∧ W = w) hnd (fun b W q => by rw [q.1, q.2]; exact h _ (k.put hN _) hq) ?_
  exact Oper.wp_of_quiet (C := fun W => W = w) (K := fun b => b = a.put (some d) v) rfl (fun b W hW q => ⟨q, hW⟩) ⟨v, hy a k, by rw [hd]⟩
end
theorem callsIn_tw {P : Program} {f : FuncId} {fn : Func} {c : Code} {args : Array Value} {n : Nat} {d : Nat} {R : Ending → World → Prop} {w : World} (hf : P.funcs[f]? = some fn) (hc : fn.body = some c) (hn : fn.ntmps = n) (hs : args.size ≤ n) (hR : ∀ w, ¬R .outgrown w) (h : TW P ⟨n, [], none, d⟩ (np (bodyPostM Fence.wide d P fn R)) (args.toList.zipIdx.map fun p => (p.2, p.1)) c w) : CallsIn Fence.wide d P f args w R := by
  subst hn
  refine callsIn_of_wp_marks hf hc trivial (wpIn_mono (h _ ⟨by simp; omega, rfl, fun i v e => ?_⟩ ?_) (fun e a w q => by cases e <;> first | exact q | exact q.elim))
  · have key : ∀ (l : List Value) (m i : Nat) (v : Value), lk ((l.zipIdx m).map (fun p => (p.2, p.1))) i = some v → m ≤ i ∧ l[i - m]? = some v := by
      intro l
      induction l with
      | nil => intro m i v e; simp [lk] at e
      | cons u l ih =>
        intro m i v e
        simp only [List.zipIdx_cons, List.map_cons, lk] at e
        by_cases hmi : m = i
        · subst hmi
          rw [show Nat.beq m m = true from Nat.beq_refl m] at e
          simpa using e
        · rw [beq_no hmi] at e
          obtain ⟨h1, h2⟩ := ih (m + 1) i v e
          refine ⟨by omega, ?_⟩
          rw [show i - m = (i - (m + 1)) + 1 by omega, List.getElem?_cons_succ]
          exact h2
    have := (key args.toList 0 i v e).2
    simp only [Nat.sub_zero, Array.getElem?_toList] at this
    obtain ⟨hlt, _⟩ := Array.getElem?_eq_some_iff.1 this
    rw [Array.getElem?_append_left hlt]
    exact this
  · rintro ⟨a, w, q⟩
    exact hR w q
/-! ### The range -/
theorem no_out {α : Type} {B : Nat} {Kp : World → World → Prop} {I : List α → World → Prop} {Ix : Code → List α → World → Prop} {xs : List α} {W : World} : ¬LetsOut (ownPostG B Kp I Ix xs W) := fun ⟨_, _, q⟩ => q
theorem put2 {N : NM} {s : List (Nat × Value)} {a : Act} (h : Kn N s a) {p q : Nat} {u v : Value} (hp : Nat.blt p N.n = true) (hq : Nat.blt q N.n = true) : Kn ⟨N.n, [], none, 0⟩ ((q, v) :: (p, u) :: s) { tmps := ((#[p, q] : Array Nat).zip #[u, v]).foldl (fun t (p, v) => t.setIfInBounds p v) a.tmps, defers := [] } := by
  have h1 : Kn ⟨N.n, [], none, 0⟩ s { a with defers := [] } := ⟨h.size, rfl, h.has⟩
  have h2 := (h1.put hp u).put hq v
  have e : ((#[p, q] : Array Nat).zip #[u, v]).foldl (fun t (x : Nat × Value) => match x with | (p, v) => t.setIfInBounds p v) a.tmps = (a.tmps.setIfInBounds p u).setIfInBounds q v := by simp
  rw [e]
  exact ⟨h2.size, rfl, h2.has⟩
theorem put1 {N : NM} {s : List (Nat × Value)} {a : Act} (h : Kn N s a) {p : Nat} {u : Value} (hp : Nat.blt p N.n = true) : Kn ⟨N.n, [], none, 0⟩ ((p, u) :: s) { tmps := ((#[p] : Array Nat).zip #[u]).foldl (fun t (p, v) => t.setIfInBounds p v) a.tmps, defers := [] } := by
  have h1 : Kn ⟨N.n, [], none, 0⟩ s { a with defers := [] } := ⟨h.size, rfl, h.has⟩
  have h2 := h1.put hp u
  have e : ((#[p] : Array Nat).zip #[u]).foldl (fun t (x : Nat × Value) => match x with | (p, v) => t.setIfInBounds p v) a.tmps = a.tmps.setIfInBounds p u := by simp
  rw [e]
  exact ⟨h2.size, rfl, h2.has⟩
theorem Kn.to {N N' : NM} {s : List (Nat × Value)} {a : Act} (h : Kn N s a) (e1 : N'.n = N.n := by rfl) (e2 : N'.ds = N.ds := by rfl) : Kn N' s a := ⟨h.size.trans e1.symm, h.defers.trans (by rw [e2]), h.has⟩
/-- A range whose body never leaves it. -/
theorem TW.rangeN {α : Type} {P : Program} {N : NM} {Q : Exit → Act → World → Prop} {s : List (Nat × Value)} {g : Operand} {ps : Array Tmp} {assign body : Code} {w : World} {gf : Nat} {lb : Array Value} (hro : N.ro = none) (h1 : 1 ≤ N.d) (hg : ev s g = some (.func (.func gf) #[] lb)) (eg : ∀ args w, (callFunc gf args).run P w = .ok (.enter gf args) w)
    {encs : α → Array Value} {Hd : World → Prop} {S Sp : List α → Prop} {m : Nat} {w0 : World} (hseq : SeqStopsK N.F (N.d - 1) P gf lb encs (fun A B => Hd A → Hd B) S Sp m w0)
    (hKb : ∀ (W W' : World) (F : Nat → Prop), Hd W → Fr F W W' → NC W w.heap.size F → Hd W') (hb0 : Below w0.heap.size w0 w) (hps : ∀ x, (encs x).size = ps.size)
    (I : List α → World → Prop) (hI : ∀ s W W' (F : Nat → Prop), I s W → Fr F W W' → NC W w.heap.size F → I s W') (h0 : I [] w) (sx : α → List (Nat × Value))
    (hsx : ∀ x a, Kn N s a → Kn ⟨N.n, [], none, 0⟩ (sx x) { tmps := (ps.zip (encs x)).foldl (fun t (p, v) => t.setIfInBounds p v) a.tmps, defers := [] })
    (Ax : α → Act → World → Prop) (hAx : ∀ x a' W W' (F : Nat → Prop), Ax x a' W → Fr F W W' → NC W w.heap.size F → Ax x a' W')
    (hassign : ∀ (l : Nat) (pre : List α) (x : α) (W : World), I pre W → TW P ⟨N.n, [], some l, N.d - 1 - 1⟩ (Exit.then (fun a' W' => KeepsFrom w.heap.size W W' ∧ (Hd W → Hd W') ∧ I pre W' ∧ Ax x a' W') (fun _ _ _ => False)) (sx x) assign W)
    (hbody : ∀ (l : Nat) (pre : List α) (x : α) (a' : Act) (W : World), I pre W → Ax x a' W → pre.length < m → WP ⟨N.n, [], some l, N.d - 1 - 1⟩ P (ownPostG w.heap.size (fun A B => Hd A → Hd B) I (fun _ _ _ => False) (pre ++ [x]) W) body a' W)
    (hdone : ∀ (D : Nat) (xs : List α) (W : World), w.heap.size ≤ D → S xs → I xs W → W.heap[D]? = some (.deferred (some [])) → Xw .normal ⟨N.n, D :: N.ds, N.ro, N.d⟩ Q s W) :
    TW P N Q s (.rangeFunc g ps assign body) w := fun a k hq => by
  refine wpIn_rangeFunc_ownH (F := N.F) (n := N.d) (by simpa [NM.F] using hro) h1 (k.eval hg) trivial eg hseq (fun h1 h2 h => h2 (h1 h)) (fun W l o o' hl ho hc hw h => ?_) hb0 hps I (fun _ _ _ => False) (own_of hI) (fun _ _ _ _ _ h _ _ => h.elim) h0 Ax (fun x a' => own_of fun _ => hAx x a') ?_ ?_ ?_ ?_
  · exact hKb W _ (fun q => some l = some q) h (Fr.of_by (grownBy_putObj' W l o')) fun k e => by cases e; exact ⟨hl, o, ho, hc⟩
  · intro l pre x W K hi hK
    have := hassign l pre x W hi _ ((hsx x a k).to) (fun ⟨_, _, q⟩ => q)
    refine wpIn_mono this fun e a' W' q => ?_
    cases e with
    | normal => obtain ⟨q1, q2, q3, q4⟩ := q; exact hK a' W' q1 q2 q3 q4
    | _ => exact q
  · intro l pre x a' W _ _ hi hax hlt
    exact hbody l pre x a' W hi hax hlt no_out
  · intro D xs W hD hS hi hd
    exact hdone D xs W hD hS hi hd _ ⟨k.size, by show { target := .collected D, args := #[] } :: a.defers = _; rw [k.defers]; rfl, k.has⟩
  · intro D c pre W _ _ h
    exact h.elim
end Go.Proofs.Ytdkjeiemjnmdlaa.M
