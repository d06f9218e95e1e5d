/-
  Power (layer 33): supplies plainly; rows of numbers.
-/
import Derived.Test.YtdkjeiemjnmdlaaRh
import Derived.Test.YtdkjeiemjnmdlaaProg
namespace Go.Proofs.Ytdkjeiemjnmdlaa
open Go.RowKit
set_option linter.unusedVariables false
set_option linter.unusedSimpArgs false
set_option linter.unnecessarySimpa false
/-- Numbers in memory. -/
def IntsAt (w : World) (a : Option Addr) (l : List Int) : Prop := ∀ k, k < l.length → ∃ g o, a = some ⟨g, o, none⟩ ∧ w.cell? ⟨g, o + k, none⟩ = some (.int .i64 (l.getD k 0))
theorem IntsAt.fr {w w' : World} {a : Option Addr} {l : List Int} (h : IntsAt w a l) (f : Fr (fun _ => False) w w') : IntsAt w' a l := fun k hk => by
  obtain ⟨g, o, e, hc⟩ := h k hk
  exact ⟨g, o, e, f.cell hc id⟩
theorem IntsAt.frL {w w' : World} {F : Nat → Prop} {a : Option Addr} {l : List Int} (h : IntsAt w a l) (f : Fr F w w') (hn : ∀ k, k < w.heap.size → ¬F k) : IntsAt w' a l := fun k hk => by
  obtain ⟨g, o, e, hc⟩ := h k hk
  exact ⟨g, o, e, f.cell hc (hn _ (World.block_lt_of_cell? w _ hc))⟩
/-- A row of numbers of the call's own. -/
def iC (x : Int) : List Value := [.int .i64 x]
theorem iC_len (x : Int) : (iC x).length = 1 := rfl
theorem iC_one (x : Int) : ∀ u ∈ iC x, u.oneCell' = true := fun u hu => by
  obtain rfl : u = .int .i64 x := by simpa [iC] using hu
  rfl
def Ints (B : Nat) (w : World) (v : Value) (xs : List Int) : Prop := Row B 3 1 iC w v xs
theorem Ints.fr {B : Nat} {w w' : World} {v : Value} {xs : List Int} {F : Nat → Prop} (h : Ints B w v xs) (hf : Fr F w w') (hn : ∀ k, v.ownBlock = some k → ¬F k) : Ints B w' v xs := Row.fr h hf hn
theorem infoI : (Try.prog.info? 3).map (fun i => (i.zero, i.size, i.bytes)) = some (some (.int .i64 0), 1, 8) := by kernel_rfl
theorem Ints.app {B : Nat} {W : World} {v : Value} {xs : List Int} (x : Int) (ty : TypeId) (h : Ints B W v xs) (hB : B ≤ W.heap.size) (hl : xs.length ≤ 1000000) : ∃ v' w', (Builtin.append_ #[22, 22] ty #[v, .slice (some ⟨W.heap.size, 0, none⟩) 1 1]).run Try.prog (W.alloc (.cells #[.int .i64 x] 3)) = .ok v' w' ∧ (Ints B w' v' (xs ++ [x]) ∧ Fr (fun q => v.ownBlock = some q) W w' ∧ ∀ k, v'.ownBlock = some k → v.ownBlock = some k ∨ W.heap.size ≤ k) :=
  Row.app 22 ty Try.underlying22 infoI rfl (by decide) (by decide) iC_len iC_one x h hB hl rfl
theorem Ints.at {B : Nat} {w : World} {v : Value} {xs : List Int} (h : Ints B w v xs) : ∃ a c, v = .slice a xs.length c ∧ IntsAt w a xs := by
  by_cases hn : 0 < xs.length
  · obtain ⟨g, cap, rfl, _⟩ := Row.own h hn
    refine ⟨_, _, rfl, fun k hk => ⟨g, 0, rfl, ?_⟩⟩
    exact Row.cell iC_len h (k := k) (x := xs[k]) (List.getElem?_eq_getElem hk) (j := 0) (u := .int .i64 (xs.getD k 0)) (by simp [iC, List.getD_eq_getElem?_getD, hk]) (by omega)
  · obtain ⟨a, cap, rfl⟩ := Row.form h
    exact ⟨a, cap, rfl, fun k hk => absurd hk (by omega)⟩
theorem ints2 {B : Nat} {w : World} {g : Nat} {x y : Int} (h : Bx w g #[.int .i64 x, .int .i64 y] 3) (hb : B ≤ g) : Ints B w (.slice (some ⟨g, 0, none⟩) 2 2) [x, y] := ⟨rfl, .inr ⟨g, 2, _, rfl, hb, h, Nat.le_refl _, by decide, rfl, rfl⟩⟩
theorem bi_min (w : World) (ty : TypeId) (m n : Int) : (Builtin.min_ #[3, 3] ty #[.int .i64 m, .int .i64 n]).run Try.prog w = .ok (.int .i64 (min m n)) w := by
  by_cases h : n < m
  · have e : min m n = n := by omega
    rw [e]; simp [go_sem, Builtin.min_, Builtin.min2]; omega
  · have e : min m n = m := by omega
    rw [e]; simp [go_sem, Builtin.min_, Builtin.min2]; omega
theorem bi_max (w : World) (ty : TypeId) (m n : Int) : (Builtin.max_ #[3, 3] ty #[.int .i64 m, .int .i64 n]).run Try.prog w = .ok (.int .i64 (max m n)) w := by
  by_cases h : n < m
  · have e : max m n = m := by omega
    rw [e]; simp [go_sem, Builtin.max_, Builtin.max2]; omega
  · have e : max m n = n := by omega
    rw [e]; simp [go_sem, Builtin.max_, Builtin.max2]; omega
theorem O.bmin {P : Program} {ops : Array Oper} {N : Nat} {Q : Exit → Act → World → Prop} {s : List (Nat × Value)} {l : List Oper} {o : Oper} {d : Nat} {w : World} {x y : Operand} {t t2 : TypeId} {u u2 v : Value} (hop : o.op = .call ⟨.builtin .min, #[x, y], #[t, t2]⟩) (hd : o.dst = some d) (hN : Nat.blt d N = true) (hg : gd ops s o = some true) (hu : ev s x = some u) (hu2 : ev s y = some u2) (hr : (Builtin.min_ #[t, t2] o.type #[u, u2]).run P w = .ok v w) (h : WL P ops N Q ((d, v) :: s) l w) : WL P ops N Q s (o :: l) w :=
  WL.run hd hN hg (fun a k => by
    have h1 := k.eval hu
    have h2 := k.eval hu2
    unfold execOp
    rw [hop]
    generalize a.eval = e at *
    simp [go_sem, h1, h2, hr]) h
theorem M.O.bmin {P : Program} {ops : Array Oper} {N : M.NM} {Q : Exit → Act → World → Prop} {s : List (Nat × Value)} {l : List Oper} {o : Oper} {d : Nat} {w : World} {x y : Operand} {t t2 : TypeId} {u u2 v : Value} (hop : o.op = .call ⟨.builtin .min, #[x, y], #[t, t2]⟩) (hd : o.dst = some d) (hN : Nat.blt d N.n = true) (hg : gd ops s o = some true) (hu : ev s x = some u) (hu2 : ev s y = some u2) (hr : (Builtin.min_ #[t, t2] o.type #[u, u2]).run P w = .ok v w) (h : M.WL P ops N Q ((d, v) :: s) l w) : M.WL P ops N Q s (o :: l) w :=
  M.WL.run hd hN hg (fun a k => by
    have h1 := k.eval hu
    have h2 := k.eval hu2
    unfold execOp
    rw [hop]
    generalize a.eval = e at *
    simp [go_sem, h1, h2, hr]) h
theorem M.O.ret3 {P : Program} {N : M.NM} {s : List (Nat × Value)} {w : World} {fn : Func} {R : Ending → World → Prop} {t u x : Nat} {v v' v2 : Value} (hr : fn.results = #[.tmp t, .tmp u, .tmp x]) (hv : lk s t = some v) (hv' : lk s u = some v') (hv2 : lk s x = some v2) (hM : M.Mks N.ds w) (h : ∀ w', M.Lv N.ds w w' → R (.returned (.tuple #[v, v', v2])) w') : M.Xw .ret N (M.np (bodyPostM N.F N.d P fn R)) s w := fun a k => by
  show LeavesInM N.F N.d P fn a.tmps R a.defers .returning w
  rw [k.defers]
  refine M.leaves_of N.ds w hM fun w' f => ⟨.tuple #[v, v', v2], ?_, h w' f⟩
  have h1 := k.has t v hv
  have h2 := k.has u v' hv'
  have h3 := k.has x v2 hv2
  simp [results, hr, h1, h2, h3]
/-- The supply's state. -/
structure Pw where
  lv : Int
  on : Bool
  ex : Int
  fl : List Int
def pw0 : Pw := ⟨0, false, 0, []⟩
def Pw.fell (s : Pw) : List Int := if 0 < s.ex then s.fl ++ [s.ex] else s.fl
def Pw.tick (room lim : Int) (s : Pw) (e : Int) : Pw :=
  if s.on = true then ⟨min (s.lv + e) room - 1, decide (0 < min (s.lv + e) room - 1), s.ex + 1, s.fl⟩
  else if lim ≤ min (s.lv + e) room then ⟨min (s.lv + e) room - 1, decide (0 < min (s.lv + e) room - 1), s.ex + 1, s.fell⟩
  else ⟨min (s.lv + e) room, false, s.ex, s.fl⟩
def prv (l : List Int) (j : Nat) : Int := if j = 0 then 0 else l.getD (j - 1) 0
structure PInv (room lim : Int) (n : Nat) (s : Pw) : Prop where
  l0 : 0 ≤ s.lv
  l1 : s.lv ≤ room
  e0 : 0 ≤ s.ex
  e1 : s.ex ≤ n
  fl : s.fl.length ≤ n
  on : s.on = true → 0 < s.lv
  el : ∀ x ∈ s.fl, 0 ≤ x ∧ x ≤ n
  ap : ∀ j, j < s.fl.length → lim ≤ s.fl.getD j 0 - prv s.fl j
  lt : prv s.fl s.fl.length ≤ s.ex
  p0 : 0 ≤ prv s.fl s.fl.length
  ng : s.on = true → lim ≤ s.ex - prv s.fl s.fl.length + s.lv
  of : s.on = false → s.ex = 0 ∧ s.fl = [] ∨ 0 < s.ex ∧ lim ≤ s.ex - prv s.fl s.fl.length
theorem prv_app (l : List Int) (x : Int) (j : Nat) (hj : j ≤ l.length) : prv (l ++ [x]) j = prv l j := by
  unfold prv
  split
  · rfl
  · rw [List.getD_eq_getElem?_getD, List.getD_eq_getElem?_getD, List.getElem?_append_left (by omega)]
theorem prv_last (l : List Int) (x : Int) : prv (l ++ [x]) (l ++ [x]).length = x := by
  unfold prv
  rw [if_neg (by simp)]
  simp [List.getD_eq_getElem?_getD]
theorem tick_inv {room lim : Int} {n : Nat} {s : Pw} (h : PInv room lim n s) {e : Int} (he : 0 ≤ e) (h1 : 1 ≤ lim) (h2 : lim ≤ room) : PInv room lim (n + 1) (s.tick room lim e) := by
  obtain ⟨l0, l1, e0, e1, fl, on, el, ap, lt, p0, ng, of⟩ := h
  obtain ⟨lv, o, ex, f⟩ := s
  simp only at *
  unfold Pw.tick
  cases o with
  | true =>
    have := ng rfl
    have := on rfl
    rw [if_pos rfl]
    refine ⟨by simp only; omega, by simp only; omega, by simp only; omega, by simp only; omega, by simp only; omega, fun q => ?_, fun x hx => ?_, ap, by simp only; omega, p0, fun q => ?_, fun q => ?_⟩
    · simp only [decide_eq_true_eq] at q
      exact q
    · have := el x hx
      exact ⟨this.1, by omega⟩
    · simp only
      omega
    · simp only [decide_eq_false_iff_not] at q
      exact .inr ⟨by simp only; omega, by simp only; omega⟩
  | false =>
    have o2 := of rfl
    rw [if_neg (by simp)]
    split
    · rename_i hsw
      unfold Pw.fell
      simp only at *
      by_cases hx : 0 < ex
      · have hap : lim ≤ ex - prv f f.length := by
          rcases o2 with q | q
          · omega
          · exact q.2
        rw [if_pos hx]
        have hl := prv_last f ex
        refine ⟨by simp only; omega, by simp only; omega, by simp only; omega, by simp only; omega, by simp; omega, fun q => ?_, fun x hx => ?_, fun j hj => ?_, ?_, ?_, fun q => ?_, fun q => ?_⟩
        · simp only [decide_eq_true_eq] at q
          exact q
        · simp only [List.mem_append, List.mem_singleton] at hx
          rcases hx with hx | rfl
          · have := el x hx
            exact ⟨this.1, by omega⟩
          · exact ⟨by omega, by omega⟩
        · simp only [List.length_append, List.length_singleton] at hj
          simp only
          rw [prv_app f ex j (by omega)]
          rcases Nat.lt_or_ge j f.length with q | q
          · rw [List.getD_eq_getElem?_getD, List.getElem?_append_left q, ← List.getD_eq_getElem?_getD]
            exact ap j q
          · obtain rfl : j = f.length := by omega
            rw [List.getD_eq_getElem?_getD, List.getElem?_append_right (Nat.le_refl _)]
            simpa using hap
        · simp only [hl]; omega
        · simp only [hl]; omega
        · simp only [hl]; omega
        · simp only [decide_eq_false_iff_not] at q
          simp only [hl]
          exact .inr ⟨by omega, by omega⟩
      · have hex : ex = 0 ∧ f = [] := by
          rcases o2 with q | q
          · exact q
          · omega
        rw [if_neg hx]
        obtain ⟨rfl, rfl⟩ := hex
        have hp : prv [] 0 = 0 := rfl
        refine ⟨by simp only; omega, by simp only; omega, by simp, by simp only; omega, by simp, fun q => ?_, fun x hx => by simp at hx, fun j hj => by simp at hj, by simp [hp], by simp [hp], fun q => ?_, fun q => ?_⟩
        · simp only [decide_eq_true_eq] at q
          exact q
        · simp only [List.length_nil, hp]
          omega
        · simp only [decide_eq_false_iff_not] at q
          simp only [List.length_nil, hp]
          exact .inr ⟨by omega, by omega⟩
    · exact ⟨by simp only; omega, by simp only; omega, e0, by simp only; omega, by simp only; omega, (fun q => by cases q), (fun x hx => ⟨(el x hx).1, by have := (el x hx).2; omega⟩), ap, lt, p0, (fun q => by cases q), fun _ => o2⟩
/-- So many ticks, one after the other. -/
def Pw.run (room lim : Int) (ev : Nat → Int) (ts : List Nat) : Pw := ts.foldl (fun s t => s.tick room lim (ev t)) pw0
theorem run_app (room lim : Int) (ev : Nat → Int) (ts : List Nat) (t : Nat) : Pw.run room lim ev (ts ++ [t]) = (Pw.run room lim ev ts).tick room lim (ev t) := by unfold Pw.run; rw [List.foldl_append]; rfl
theorem pw0_inv {room lim : Int} (h : 0 ≤ room) : PInv room lim 0 pw0 := ⟨Int.le_refl _, h, Int.le_refl _, Int.le_refl _, Nat.le_refl _, (fun q => by cases q), (fun x hx => by cases hx), (fun j hj => by cases hj), Int.le_refl _, Int.le_refl _, (fun q => by cases q), fun _ => .inl ⟨rfl, rfl⟩⟩
theorem run_inv {room lim : Int} {ev : Nat → Int} (he : ∀ t, 0 ≤ ev t) (h1 : 1 ≤ lim) (h2 : lim ≤ room) (ts : List Nat) : PInv room lim ts.length (Pw.run room lim ev ts) := by
  have key : ∀ (ts : List Nat) (n : Nat) (s : Pw), PInv room lim n s → PInv room lim (n + ts.length) (ts.foldl (fun s t => s.tick room lim (ev t)) s) := fun ts => by
    induction ts with
    | nil => intro n s h; exact h
    | cons t ts ih =>
      intro n s h
      have := ih (n + 1) _ (tick_inv h (he t) h1 h2)
      rw [List.length_cons, show n + (ts.length + 1) = n + 1 + ts.length by omega]
      exact this
  have := key ts 0 pw0 (pw0_inv (by omega))
  rwa [Nat.zero_add] at this
/-- May a supply be? -/
def SupOk (l : List Int) (room lim : Int) : Prop := 1 ≤ l.length ∧ l.length ≤ 4096 ∧ (∀ k, k < l.length → 0 ≤ l.getD k 0 ∧ l.getD k 0 ≤ 1048576) ∧ 1 ≤ lim ∧ lim ≤ room ∧ room ≤ 1048576
/-- What comes at a tick. -/
def evT (l : List Int) (t : Nat) : Int := l.getD (t % l.length) 0
theorem SupOk.ev {l : List Int} {room lim : Int} (h : SupOk l room lim) (t : Nat) : 0 ≤ evT l t ∧ evT l t ≤ 1048576 := h.2.2.1 _ (Nat.mod_lt _ h.1)
theorem SupOk.inv {l : List Int} {room lim : Int} (h : SupOk l room lim) (ts : List Nat) : PInv room lim ts.length (Pw.run room lim (evT l) ts) := run_inv (fun t => (h.ev t).1) h.2.2.2.1 h.2.2.2.2.1 ts
def tmN (tm : Int) : Nat := (min (max tm 0) 4000000).toNat
def stP (room lim : Int) (s : List Int) (j : Nat) : Pw := Pw.run room lim (evT s) (List.range j)
theorem stP_succ (room lim : Int) (s : List Int) (j : Nat) : stP room lim s (j + 1) = (stP room lim s j).tick room lim (evT s j) := by unfold stP; rw [List.range_succ, run_app]
theorem stP_inv {s : List Int} {room lim : Int} (h : SupOk s room lim) (j : Nat) : PInv room lim j (stP room lim s j) := by
  have := h.inv (List.range j)
  rwa [List.length_range] at this
theorem tick_on {room lim lv ex en : Int} {fl : List Int} : Pw.tick room lim ⟨lv, true, ex, fl⟩ en = ⟨min (lv + en) room - 1, decide (0 < min (lv + en) room - 1), ex + 1, fl⟩ := by unfold Pw.tick; rw [if_pos rfl]
theorem tick_sw {room lim lv ex en : Int} {fl : List Int} (h : lim ≤ min (lv + en) room) : Pw.tick room lim ⟨lv, false, ex, fl⟩ en = ⟨min (lv + en) room - 1, decide (0 < min (lv + en) room - 1), ex + 1, if 0 < ex then fl ++ [ex] else fl⟩ := by unfold Pw.tick; rw [if_neg (by simp), if_pos h]; rfl
theorem tick_off {room lim lv ex en : Int} {fl : List Int} (h : ¬ lim ≤ min (lv + en) room) : Pw.tick room lim ⟨lv, false, ex, fl⟩ en = ⟨min (lv + en) room, false, ex, fl⟩ := by unfold Pw.tick; rw [if_neg (by simp), if_neg h]
end Go.Proofs.Ytdkjeiemjnmdlaa
