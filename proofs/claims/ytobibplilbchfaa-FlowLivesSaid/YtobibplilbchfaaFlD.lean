/-
  Flow (layer 16): a traversal in memory.
-/
import Derived.Test.YtobibplilbchfaaFlC
namespace Go.Proofs.Ytobibplilbchfaa
open Go.RowKit
set_option linter.unusedVariables false
set_option linter.unusedSimpArgs false
set_option linter.unnecessarySimpa false
/-- A block that is entered: its number, and where the rest of what it leads to lies. -/
structure Vs where
  n : Int
  a : Option Addr
  k : Nat
  c : Nat
def vs0 : Vs := ⟨0, none, 0, 0⟩
def vC (x : Vs) : List Value := [.int .i64 x.n, .slice x.a x.k x.c]
theorem vC_len (x : Vs) : (vC x).length = 2 := rfl
theorem vC_one (x : Vs) : ∀ u ∈ vC x, u.oneCell' = true := fun u hu => by
  have : u = .int .i64 x.n ∨ u = .slice x.a x.k x.c := by simpa [vC] using hu
  rcases this with rfl | rfl <;> rfl
def pC (x : Int × Int) : List Value := [.int .i64 x.1, .int .i64 x.2]
theorem pC_len (x : Int × Int) : (pC x).length = 2 := rfl
theorem pC_one (x : Int × Int) : ∀ u ∈ pC x, u.oneCell' = true := fun u hu => by
  have : u = .int .i64 x.1 ∨ u = .int .i64 x.2 := by simpa [pC] using hu
  rcases this with rfl | rfl <;> rfl
theorem infoV : (Try.prog.info? 81).map (fun i => (i.zero, i.size, i.bytes)) = some (some (.agg #[.int .i64 0, .slice none 0 0]), 2, 32) := by kernel_rfl
theorem infoA : (Try.prog.info? 41).map (fun i => (i.zero, i.size, i.bytes)) = some (some (.agg #[.int .i64 0, .int .i64 0]), 2, 16) := by kernel_rfl
theorem vs_app {B : Nat} {W : World} {v : Value} {xs : List Vs} (x : Vs) (ty : TypeId) (h : Row B 81 2 vC W v xs) (hB : B ≤ W.heap.size) (hl : xs.length ≤ 1000000) : ∃ v' w', (Builtin.append_ #[54, 54] ty #[v, .slice (some ⟨W.heap.size, 0, none⟩) 1 1]).run Try.prog (W.alloc (.cells #[.int .i64 x.n, .slice x.a x.k x.c] 81)) = .ok v' w' ∧ (Row B 81 2 vC w' v' (xs ++ [x]) ∧ Fr (fun q => v.ownBlock = some q) W w' ∧ ∀ k, v'.ownBlock = some k → v.ownBlock = some k ∨ W.heap.size ≤ k) :=
  Row.app 54 ty Try.underlying54 infoV rfl (by decide) (by decide) vC_len vC_one x h hB hl rfl
theorem pr_app {B : Nat} {W : World} {v : Value} {xs : List (Int × Int)} (x : Int × Int) (ty : TypeId) (h : Row B 41 2 pC W v xs) (hB : B ≤ W.heap.size) (hl : xs.length ≤ 1000000) : ∃ v' w', (Builtin.append_ #[32, 32] ty #[v, .slice (some ⟨W.heap.size, 0, none⟩) 1 1]).run Try.prog (W.alloc (.cells #[.int .i64 x.1, .int .i64 x.2] 41)) = .ok v' w' ∧ (Row B 41 2 pC w' v' (xs ++ [x]) ∧ Fr (fun q => v.ownBlock = some q) W w' ∧ ∀ k, v'.ownBlock = some k → v.ownBlock = some k ∨ W.heap.size ≤ k) :=
  Row.app 32 ty Try.underlying32 infoA rfl (by decide) (by decide) pC_len pC_one x h hB hl rfl
/-- Numbers in a block of numbers, which is neither of two. -/
def RestA (w : World) (S : Nat) (vl : Value) (a : Option Addr) (l : List Int) : Prop := ∀ k, k < l.length → ∃ g o, a = some ⟨g, o, none⟩ ∧ w.cell? ⟨g, o + k, none⟩ = some (.int .i64 (l.getD k 0)) ∧ g ≠ S ∧ vl.ownBlock ≠ some g ∧ ∃ cur, w.heap[g]? = some (.cells cur 3 (0, 0))
theorem RestA.fr {w w' : World} {S : Nat} {vl : Value} {a : Option Addr} {l : List Int} {F : Nat → Prop} (h : RestA w S vl a l) (f : Fr F w w') (hn : ∀ g, g ≠ S → vl.ownBlock ≠ some g → (∃ cur, w.heap[g]? = some (.cells cur 3 (0, 0))) → ¬F g) : RestA w' S vl a l := fun k hk => by
  obtain ⟨g, o, e, hc, h1, h2, cur, h3⟩ := h k hk
  have hng := hn g h1 h2 ⟨cur, h3⟩
  exact ⟨g, o, e, f.cell hc hng, h1, h2, cur, (f.block g (Array.getElem?_eq_some_iff.1 h3).1 hng).trans h3⟩
theorem RestA.vl {w : World} {S : Nat} {vl vl' : Value} {a : Option Addr} {l : List Int} (h : RestA w S vl a l) (hv : ∀ k, vl'.ownBlock = some k → vl.ownBlock = some k ∨ w.heap.size ≤ k) : RestA w S vl' a l := fun k hk => by
  obtain ⟨g, o, e, hc, h1, h2, cur, h3⟩ := h k hk
  exact ⟨g, o, e, hc, h1, fun q => (hv g q).elim h2 (fun q => by have := (Array.getElem?_eq_some_iff.1 h3).1; omega), cur, h3⟩
def Rel (w : World) (S : Nat) (vl : Value) (ms : List Vs) (path : List (Int × List Int)) : Prop := ms.length = path.length ∧ ∀ k, k < path.length → (ms.getD k vs0).n = (path.getD k (0, [])).1 ∧ (ms.getD k vs0).k = (path.getD k (0, [])).2.length ∧ (ms.getD k vs0).k ≤ (ms.getD k vs0).c ∧ RestA w S vl (ms.getD k vs0).a (path.getD k (0, [])).2
theorem Rel.fr {w w' : World} {S : Nat} {vl : Value} {ms : List Vs} {path : List (Int × List Int)} {F : Nat → Prop} (h : Rel w S vl ms path) (f : Fr F w w') (hn : ∀ g, g ≠ S → vl.ownBlock ≠ some g → (∃ cur, w.heap[g]? = some (.cells cur 3 (0, 0))) → ¬F g) : Rel w' S vl ms path := ⟨h.1, fun k hk => ⟨(h.2 k hk).1, (h.2 k hk).2.1, (h.2 k hk).2.2.1, (h.2 k hk).2.2.2.fr f hn⟩⟩
theorem Rel.vl {w : World} {S : Nat} {vl vl' : Value} {ms : List Vs} {path : List (Int × List Int)} (h : Rel w S vl ms path) (hv : ∀ k, vl'.ownBlock = some k → vl.ownBlock = some k ∨ w.heap.size ≤ k) : Rel w S vl' ms path := ⟨h.1, fun k hk => ⟨(h.2 k hk).1, (h.2 k hk).2.1, (h.2 k hk).2.2.1, (h.2 k hk).2.2.2.vl hv⟩⟩
theorem Rel.snoc {w : World} {S : Nat} {vl : Value} {ms : List Vs} {path : List (Int × List Int)} (h : Rel w S vl ms path) {x : Vs} {y : Int × List Int} (h1 : x.n = y.1) (h2 : x.k = y.2.length) (h4 : x.k ≤ x.c) (h3 : RestA w S vl x.a y.2) : Rel w S vl (ms ++ [x]) (path ++ [y]) := by
  refine ⟨by simp [h.1], fun k hk => ?_⟩
  rcases Nat.lt_or_ge k path.length with q | q
  · rw [List.getD_eq_getElem?_getD, List.getD_eq_getElem?_getD, List.getElem?_append_left q, List.getElem?_append_left (by rw [h.1]; exact q), ← List.getD_eq_getElem?_getD, ← List.getD_eq_getElem?_getD]
    exact h.2 k q
  · have e : k = path.length := by simp at hk; omega
    subst e
    have e1 : (ms ++ [x]).getD path.length vs0 = x := by rw [← h.1]; simp [List.getD_eq_getElem?_getD]
    have e2 : (path ++ [y]).getD path.length (0, []) = y := by simp [List.getD_eq_getElem?_getD]
    rw [e1, e2]
    exact ⟨h1, h2, h4, h3⟩
theorem Rel.set {w : World} {S : Nat} {vl : Value} {ms : List Vs} {path : List (Int × List Int)} (h : Rel w S vl ms path) {i : Nat} {x : Vs} {y : Int × List Int} (h1 : x.n = y.1) (h2 : x.k = y.2.length) (h4 : x.k ≤ x.c) (h3 : RestA w S vl x.a y.2) : Rel w S vl (ms.set i x) (path.set i y) := by
  refine ⟨by simp [h.1], fun k hk => ?_⟩
  have hk2 : k < path.length := by simpa using hk
  by_cases q : i = k
  · subst q
    have e1 : (ms.set i x).getD i vs0 = x := by simp [List.getD_eq_getElem?_getD, h.1, hk2]
    have e2 : (path.set i y).getD i (0, []) = y := by simp [List.getD_eq_getElem?_getD, hk2]
    rw [e1, e2]
    exact ⟨h1, h2, h4, h3⟩
  · rw [List.getD_eq_getElem?_getD, List.getD_eq_getElem?_getD, List.getElem?_set_ne q, List.getElem?_set_ne q, ← List.getD_eq_getElem?_getD, ← List.getD_eq_getElem?_getD]
    exact h.2 k hk2
theorem RestA.tail {w : World} {S : Nat} {vl : Value} {g o n c : Nat} {y : Int} {ys : List Int} (h : RestA w S vl (some ⟨g, o, none⟩) (y :: ys)) (hc : ys.length + 1 ≤ c) : RestA w S vl (some ⟨g, if c = 1 then o else o + 1, none⟩) ys := fun k hk => by
  obtain ⟨g', o', e, hc2, h1, h2, h3⟩ := h (k + 1) (by simp; omega)
  cases e
  refine ⟨g, o + 1, by rw [if_neg (by omega)], ?_, h1, h2, h3⟩
  rw [show o + 1 + k = o + (k + 1) by omega, hc2]
  simp
theorem Rel.take {w : World} {S : Nat} {vl : Value} {ms : List Vs} {path : List (Int × List Int)} (h : Rel w S vl ms path) (n : Nat) : Rel w S vl (ms.take n) (path.take n) := by
  refine ⟨by simp [h.1], fun k hk => ?_⟩
  have h1 : k < n := by simp at hk; omega
  have h2 : k < path.length := by simp at hk; omega
  rw [List.getD_eq_getElem?_getD, List.getD_eq_getElem?_getD, List.getElem?_take, List.getElem?_take, if_pos h1, if_pos h1, ← List.getD_eq_getElem?_getD, ← List.getD_eq_getElem?_getD]
  exact h.2 k h2
theorem Ints.rest {B : Nat} {w : World} {v : Value} {xs : List Int} (h : Ints B w v xs) {S : Nat} {vl : Value} (h1 : ∀ k, v.ownBlock = some k → k ≠ S ∧ vl.ownBlock ≠ some k) : ∃ a c, v = .slice a xs.length c ∧ xs.length ≤ c ∧ RestA w S vl a xs := by
  have hcl : ∀ a n c, v = .slice a n c → n ≤ c := fun a n c e => by subst e; exact (Row.capLe h).2.1
  by_cases hn : 0 < xs.length
  · obtain ⟨g, cap, rfl, ho⟩ := Row.own h hn
    obtain ⟨cur, ht⟩ := Row.typ h g ho
    refine ⟨_, _, rfl, hcl _ _ _ rfl, fun k hk => ⟨g, 0, rfl, h.cell hk, (h1 g ho).1, (h1 g ho).2, cur, ht⟩⟩
  · obtain ⟨a, cap, rfl⟩ := Row.form h
    exact ⟨a, cap, rfl, hcl _ _ _ rfl, fun k hk => absurd hk (by omega)⟩
/-- A traversal, as it lies in memory. -/
structure Trv (B tb S nb : Nat) (w : World) (vp vl vb : Value) (ms : List Vs) (path : List (Int × List Int)) (st left : List Int) (back : List (Int × Int)) : Prop where
  bx : Bx w tb #[.slice (some ⟨S, 0, none⟩) nb nb, vp, vl, vb] 56
  hs : Ints B w (.slice (some ⟨S, 0, none⟩) nb nb) st
  hp : Row B 81 2 vC w vp ms
  hl : Ints B w vl left
  hb : Row B 41 2 pC w vb back
  ap : vl.ownBlock ≠ some S
  bt : B ≤ tb
  rel : Rel w S vl ms path
theorem Trv.fr {B tb S nb : Nat} {w w' : World} {vp vl vb : Value} {ms : List Vs} {path : List (Int × List Int)} {st left : List Int} {back : List (Int × Int)} (h : Trv B tb S nb w vp vl vb ms path st left back) (f : Fr (fun _ => False) w w') : Trv B tb S nb w' vp vl vb ms path st left back :=
  ⟨h.bx.fr f id, h.hs.fr f (fun _ _ => id), Row.fr h.hp f (fun _ _ => id), h.hl.fr f (fun _ _ => id), Row.fr h.hb f (fun _ _ => id), h.ap, h.bt, h.rel.fr f (fun _ _ _ _ => id)⟩
/-- What lies apart. -/
structure Aps (w : World) (B tb S : Nat) (vp vl vb : Value) : Prop where
  pS : vp.ownBlock ≠ some S
  pt : vp.ownBlock ≠ some tb
  lS : vl.ownBlock ≠ some S
  lt : vl.ownBlock ≠ some tb
  bS : vb.ownBlock ≠ some S
  bt : vb.ownBlock ≠ some tb
  tS : tb ≠ S
  pl : ∀ k, vp.ownBlock = some k → vl.ownBlock ≠ some k
  pb : ∀ k, vp.ownBlock = some k → vb.ownBlock ≠ some k
  lb : ∀ k, vl.ownBlock = some k → vb.ownBlock ≠ some k
  ri : ∀ g, (∃ cur, w.heap[g]? = some (.cells cur 3 (0, 0))) → g ≠ tb ∧ vp.ownBlock ≠ some g ∧ vb.ownBlock ≠ some g
  xt : B ≤ tb ∧ tb < w.heap.size
  xS : B ≤ S ∧ S < w.heap.size
  xp : ∀ k, vp.ownBlock = some k → B ≤ k ∧ k < w.heap.size
  xl : ∀ k, vl.ownBlock = some k → B ≤ k ∧ k < w.heap.size
  xb : ∀ k, vb.ownBlock = some k → B ≤ k ∧ k < w.heap.size
theorem typ_ne {w : World} {g h : Nat} {x y : Array Value} {e e2 : TypeId} (h1 : w.heap[g]? = some (.cells x e (0, 0))) (h2 : w.heap[h]? = some (.cells y e2 (0, 0))) (hne : e ≠ e2) : g ≠ h := fun e0 => by
  subst e0
  rw [h1] at h2
  have := Option.some.inj h2
  injection this with _ h3 _
  exact hne h3
theorem Trv.aps {B tb S nb : Nat} {w : World} {vp vl vb : Value} {ms : List Vs} {path : List (Int × List Int)} {st left : List Int} {back : List (Int × Int)} (h : Trv B tb S nb w vp vl vb ms path st left back) : Aps w B tb S vp vl vb := by
  obtain ⟨cs, hS⟩ := Row.typ h.hs S rfl
  have ht : w.heap[tb]? = some (.cells _ 56 (0, 0)) := h.bx
  refine ⟨Row.apart_typ h.hp hS (by decide), Row.apart_typ h.hp ht (by decide), h.ap, Row.apart_typ h.hl ht (by decide), Row.apart_typ h.hb hS (by decide), Row.apart_typ h.hb ht (by decide), typ_ne ht hS (by decide), fun k hk => ?_, fun k hk => ?_, fun k hk => ?_, fun g ⟨cur, hg⟩ => ⟨fun e => typ_ne hg ht (by decide) e, Row.apart_typ h.hp hg (by decide), Row.apart_typ h.hb hg (by decide)⟩, ⟨h.bt, (Array.getElem?_eq_some_iff.1 ht).1⟩, Row.lt h.hs S rfl, Row.lt h.hp, Row.lt h.hl, Row.lt h.hb⟩
  · obtain ⟨c, hc⟩ := Row.typ h.hp k hk
    exact Row.apart_typ h.hl hc (by decide)
  · obtain ⟨c, hc⟩ := Row.typ h.hp k hk
    exact Row.apart_typ h.hb hc (by decide)
  · obtain ⟨c, hc⟩ := Row.typ h.hl k hk
    exact Row.apart_typ h.hb hc (by decide)
theorem RestA.grow {w w1 : World} {S : Nat} {vl vl' : Value} {a : Option Addr} {l : List Int} (h : RestA w S vl a l) (f : Fr (fun q => vl.ownBlock = some q) w w1) (hv : ∀ k, vl'.ownBlock = some k → vl.ownBlock = some k ∨ w.heap.size ≤ k) : RestA w1 S vl' a l := fun k hk => by
  obtain ⟨g, o, e, hc, h1, h2, cur, h3⟩ := h k hk
  have hlt := (Array.getElem?_eq_some_iff.1 h3).1
  exact ⟨g, o, e, f.cell hc h2, h1, fun q => (hv g q).elim h2 (fun q => by omega), cur, (f.block g hlt h2).trans h3⟩
theorem Rel.grow {w w1 : World} {S : Nat} {vl vl' : Value} {ms : List Vs} {path : List (Int × List Int)} (h : Rel w S vl ms path) (f : Fr (fun q => vl.ownBlock = some q) w w1) (hv : ∀ k, vl'.ownBlock = some k → vl.ownBlock = some k ∨ w.heap.size ≤ k) : Rel w1 S vl' ms path := ⟨h.1, fun k hk => ⟨(h.2 k hk).1, (h.2 k hk).2.1, (h.2 k hk).2.2.1, (h.2 k hk).2.2.2.grow f hv⟩⟩
theorem ri_not {w : World} {B tb S : Nat} {vp vl vb : Value} (a : Aps w B tb S vp vl vb) {g : Nat} (hg : ∃ cur, w.heap[g]? = some (.cells cur 3 (0, 0))) : g ≠ tb ∧ vp.ownBlock ≠ some g ∧ vb.ownBlock ≠ some g := a.ri g hg
theorem own_S {S n c k : Nat} (h : (Value.slice (some ⟨S, 0, none⟩) n c).ownBlock = some k) : S = k := by simpa [Value.ownBlock] using h
/-- The state of a block is set. -/
theorem Trv.setS {B tb S nb : Nat} {w w1 : World} {vp vl vb : Value} {ms : List Vs} {path : List (Int × List Int)} {st left : List Int} {back : List (Int × Int)} (h : Trv B tb S nb w vp vl vb ms path st left back) {st' : List Int} (hI : Ints B w1 (.slice (some ⟨S, 0, none⟩) nb nb) st') (h1 : Fr (fun q => q = S) w w1) : Trv B tb S nb w1 vp vl vb ms path st' left back := by
  have a := h.aps
  exact ⟨h.bx.fr h1 (fun e => a.tS e), hI, Row.fr h.hp h1 (fun k hk e => a.pS (by rw [← e]; exact hk)), h.hl.fr h1 (fun k hk e => a.lS (by rw [← e]; exact hk)), Row.fr h.hb h1 (fun k hk e => a.bS (by rw [← e]; exact hk)), h.ap, h.bt, h.rel.fr h1 (fun g g1 g2 g3 e => g1 e)⟩
/-- One more block is entered. -/
theorem Trv.push {B tb S nb : Nat} {w w1 w2 : World} {vp vl vb : Value} {ms : List Vs} {path : List (Int × List Int)} {st left : List Int} {back : List (Int × Int)} (h : Trv B tb S nb w vp vl vb ms path st left back) {vp' : Value} {x : Vs} {y : Int × List Int} (hx1 : x.n = y.1) (hx2 : x.k = y.2.length) (hx4 : x.k ≤ x.c) (hx3 : RestA w S vl x.a y.2) (hR : Row B 81 2 vC w1 vp' (ms ++ [x])) (h1 : Fr (fun q => vp.ownBlock = some q) w w1) (bx : Bx w2 tb #[.slice (some ⟨S, 0, none⟩) nb nb, vp', vl, vb] 56) (h2 : Fr (fun q => q = tb) w1 w2) : Trv B tb S nb w2 vp' vl vb (ms ++ [x]) (path ++ [y]) st left back := by
  have a := h.aps
  have b1 := h.bx.fr h1 (fun e => a.pt e)
  have ri2 : ∀ g, g ≠ S → vl.ownBlock ≠ some g → (∃ cur, w.heap[g]? = some (.cells cur 3 (0, 0))) → ¬ vp.ownBlock = some g := fun g _ _ g3 => (a.ri g g3).2.1
  have ri3 : ∀ g, g ≠ S → vl.ownBlock ≠ some g → (∃ cur, w1.heap[g]? = some (.cells cur 3 (0, 0))) → ¬ g = tb := fun g _ _ ⟨cur, g3⟩ e => typ_ne g3 b1 (by decide) e
  refine ⟨bx, (h.hs.fr h1 (fun k hk e => a.pS (by rw [own_S hk]; exact e))).fr h2 (fun k hk e => a.tS (by rw [own_S hk, e])), Row.fr hR h2 (fun k hk e => Row.apart_typ hR (show w1.heap[tb]? = _ from b1) (by decide) (by rw [← e]; exact hk)), (h.hl.fr h1 (fun k hk e => a.pl k e hk)).fr h2 (fun k hk e => a.lt (by rw [← e]; exact hk)), Row.fr (Row.fr h.hb h1 (fun k hk e => a.pb k e hk)) h2 (fun k hk e => a.bt (by rw [← e]; exact hk)), h.ap, h.bt, ?_⟩
  exact Rel.snoc ((h.rel.fr h1 ri2).fr h2 ri3) hx1 hx2 hx4 ((hx3.fr h1 ri2).fr h2 ri3)
/-- The blocks that were entered last are left. -/
theorem Trv.cut {a : Option Addr} {m cap : Nat} {B tb S nb : Nat} {w w2 : World} {vl vb : Value} {ms : List Vs} {path : List (Int × List Int)} {st left : List Int} {back : List (Int × Int)} (h : Trv B tb S nb w (.slice a m cap) vl vb ms path st left back) (n : Nat) (hn : n ≤ ms.length) (bx : Bx w2 tb #[.slice (some ⟨S, 0, none⟩) nb nb, .slice a n cap, vl, vb] 56) (h2 : Fr (fun q => q = tb) w w2) : Trv B tb S nb w2 (.slice a n cap) vl vb (ms.take n) (path.take n) st left back := by
  have A := h.aps
  have ri3 : ∀ g, g ≠ S → vl.ownBlock ≠ some g → (∃ cur, w.heap[g]? = some (.cells cur 3 (0, 0))) → ¬ g = tb := fun g _ _ g3 e => (A.ri g g3).1 e
  have ho : ∀ k, (Value.slice a n cap).ownBlock = some k → (Value.slice a m cap).ownBlock = some k := fun k hk => by cases a <;> simpa [Value.ownBlock] using hk
  exact ⟨bx, h.hs.fr h2 (fun k hk e => A.tS (by rw [own_S hk, e])), Row.fr (Row.take vC_len h.hp n hn) h2 (fun k hk e => A.pt (by rw [← e]; exact ho k hk)), h.hl.fr h2 (fun k hk e => A.lt (by rw [← e]; exact hk)), Row.fr h.hb h2 (fun k hk e => A.bt (by rw [← e]; exact hk)), h.ap, h.bt, (h.rel.fr h2 ri3).take n⟩
/-- One more block is left. -/
theorem Trv.setL {B tb S nb : Nat} {w w1 w2 : World} {vp vl vb : Value} {ms : List Vs} {path : List (Int × List Int)} {st left : List Int} {back : List (Int × Int)} (h : Trv B tb S nb w vp vl vb ms path st left back) {vl' : Value} {left' : List Int} (hR : Ints B w1 vl' left') (h1 : Fr (fun q => vl.ownBlock = some q) w w1) (hn : ∀ k, vl'.ownBlock = some k → vl.ownBlock = some k ∨ w.heap.size ≤ k) (bx : Bx w2 tb #[.slice (some ⟨S, 0, none⟩) nb nb, vp, vl', vb] 56) (h2 : Fr (fun q => q = tb) w1 w2) : Trv B tb S nb w2 vp vl' vb ms path st left' back := by
  have a := h.aps
  have b1 := h.bx.fr h1 (fun e => a.lt e)
  have ri2 : ∀ g, g ≠ S → vl.ownBlock ≠ some g → (∃ cur, w.heap[g]? = some (.cells cur 3 (0, 0))) → ¬ vl.ownBlock = some g := fun g _ g2 _ => g2
  have ri3 : ∀ g, g ≠ S → vl'.ownBlock ≠ some g → (∃ cur, w1.heap[g]? = some (.cells cur 3 (0, 0))) → ¬ g = tb := fun g _ _ ⟨cur, g3⟩ e => typ_ne g3 b1 (by decide) e
  refine ⟨bx, (h.hs.fr h1 (fun k hk e => a.lS (by rw [own_S hk]; exact e))).fr h2 (fun k hk e => a.tS (by rw [own_S hk, e])), Row.fr (Row.fr h.hp h1 (fun k hk e => a.pl k hk e)) h2 (fun k hk e => a.pt (by rw [← e]; exact hk)), hR.fr h2 (fun k hk e => Row.apart_typ hR (show w1.heap[tb]? = _ from b1) (by decide) (by rw [← e]; exact hk)), Row.fr (Row.fr h.hb h1 (fun k hk e => a.lb k e hk)) h2 (fun k hk e => a.bt (by rw [← e]; exact hk)), fun e => (hn S e).elim a.lS (fun q => by have := a.xS.2; omega), h.bt, ?_⟩
  exact (h.rel.grow h1 hn).fr h2 ri3
/-- One more way back. -/
theorem Trv.setB {B tb S nb : Nat} {w w1 w2 : World} {vp vl vb : Value} {ms : List Vs} {path : List (Int × List Int)} {st left : List Int} {back : List (Int × Int)} (h : Trv B tb S nb w vp vl vb ms path st left back) {vb' : Value} {back' : List (Int × Int)} (hR : Row B 41 2 pC w1 vb' back') (h1 : Fr (fun q => vb.ownBlock = some q) w w1) (bx : Bx w2 tb #[.slice (some ⟨S, 0, none⟩) nb nb, vp, vl, vb'] 56) (h2 : Fr (fun q => q = tb) w1 w2) : Trv B tb S nb w2 vp vl vb' ms path st left back' := by
  have a := h.aps
  have b1 := h.bx.fr h1 (fun e => a.bt e)
  have ri2 : ∀ g, g ≠ S → vl.ownBlock ≠ some g → (∃ cur, w.heap[g]? = some (.cells cur 3 (0, 0))) → ¬ vb.ownBlock = some g := fun g _ _ g3 => (a.ri g g3).2.2
  have ri3 : ∀ g, g ≠ S → vl.ownBlock ≠ some g → (∃ cur, w1.heap[g]? = some (.cells cur 3 (0, 0))) → ¬ g = tb := fun g _ _ ⟨cur, g3⟩ e => typ_ne g3 b1 (by decide) e
  exact ⟨bx, (h.hs.fr h1 (fun k hk e => a.bS (by rw [own_S hk]; exact e))).fr h2 (fun k hk e => a.tS (by rw [own_S hk, e])), Row.fr (Row.fr h.hp h1 (fun k hk e => a.pb k hk e)) h2 (fun k hk e => a.pt (by rw [← e]; exact hk)), (h.hl.fr h1 (fun k hk e => a.lb k hk e)).fr h2 (fun k hk e => a.lt (by rw [← e]; exact hk)), Row.fr hR h2 (fun k hk e => Row.apart_typ hR (show w1.heap[tb]? = _ from b1) (by decide) (by rw [← e]; exact hk)), h.ap, h.bt, (h.rel.fr h1 ri2).fr h2 ri3⟩
/-- What is left of a block's ways is written. -/
theorem Trv.top {B tb S nb : Nat} {w w1 : World} {vp vl vb : Value} {ms : List Vs} {path : List (Int × List Int)} {st left : List Int} {back : List (Int × Int)} (h : Trv B tb S nb w vp vl vb ms path st left back) {ms' : List Vs} {path' : List (Int × List Int)} (hR : Row B 81 2 vC w1 vp ms') (h1 : Fr (fun q => vp.ownBlock = some q) w w1) (hr : Rel w S vl ms' path') : Trv B tb S nb w1 vp vl vb ms' path' st left back := by
  have a := h.aps
  have ri2 : ∀ g, g ≠ S → vl.ownBlock ≠ some g → (∃ cur, w.heap[g]? = some (.cells cur 3 (0, 0))) → ¬ vp.ownBlock = some g := fun g _ _ g3 => (a.ri g g3).2.1
  exact ⟨h.bx.fr h1 (fun e => a.pt e), h.hs.fr h1 (fun k hk e => a.pS (by rw [own_S hk]; exact e)), hR, h.hl.fr h1 (fun k hk e => a.pl k e hk), Row.fr h.hb h1 (fun k hk e => a.pb k e hk), h.ap, h.bt, hr.fr h1 ri2⟩
end Go.Proofs.Ytobibplilbchfaa
