/-
  Pack (layer 32): numbers in memory; rows of the call's own; cuts of slices.
-/
import Derived.Test.YtcombjhkbjbncaaPkA
import Derived.Test.YtcombjhkbjbncaaPn
namespace Go.Proofs.Ytcombjhkbjbncaa
open Go.RowKit
set_option linter.unusedVariables false
set_option linter.unusedSimpArgs false
set_option linter.unnecessarySimpa false
/-- Numbers of one kind in memory, below a bound. -/
def NumAt (k : IntKind) (Z : Nat) (w : World) (a : Option Addr) (l : List Int) : Prop := ∀ i, i < l.length → ∃ g o, a = some ⟨g, o, none⟩ ∧ g < Z ∧ w.cell? ⟨g, o + i, none⟩ = some (.int k (l.getD i 0))
theorem NumAt.fr {k : IntKind} {Z : Nat} {w w' : World} {a : Option Addr} {l : List Int} (h : NumAt k Z w a l) (f : Fr (fun _ => False) w w') : NumAt k Z w' a l := fun i hi => by
  obtain ⟨g, o, e, hz, hc⟩ := h i hi
  exact ⟨g, o, e, hz, f.cell hc id⟩
theorem NumAt.frZ {k : IntKind} {Z : Nat} {w w' : World} {F : Nat → Prop} {a : Option Addr} {l : List Int} (h : NumAt k Z w a l) (f : Fr F w w') (hn : ∀ q, q < Z → ¬F q) : NumAt k Z w' a l := fun i hi => by
  obtain ⟨g, o, e, hz, hc⟩ := h i hi
  exact ⟨g, o, e, hz, f.cell hc (hn _ hz)⟩
theorem NumAt.up {k : IntKind} {Z Z' : Nat} {w : World} {a : Option Addr} {l : List Int} (h : NumAt k Z w a l) (hz : Z ≤ Z') : NumAt k Z' w a l := fun i hi => by
  obtain ⟨g, o, e, hg, hc⟩ := h i hi
  exact ⟨g, o, e, Nat.lt_of_lt_of_le hg hz, hc⟩
theorem NumAt.nil {k : IntKind} {Z : Nat} {w : World} {a : Option Addr} : NumAt k Z w a [] := fun i hi => by simp at hi
theorem NumAt.at0 {k : IntKind} {Z : Nat} {w : World} {g o j : Nat} {l : List Int} (h : NumAt k Z w (some ⟨g, o, none⟩) l) (hj : j < l.length) : w.cell? ⟨g, o + j, none⟩ = some (.int k (l.getD j 0)) := by
  obtain ⟨g2, o2, e, _, hc⟩ := h j hj
  cases e
  exact hc
theorem NumAt.form {k : IntKind} {Z : Nat} {w : World} {a : Option Addr} {l : List Int} (h : NumAt k Z w a l) (hl : 0 < l.length) : ∃ g o, a = some ⟨g, o, none⟩ ∧ g < Z := by
  obtain ⟨g, o, e, hz, _⟩ := h 0 hl
  exact ⟨g, o, e, hz⟩
theorem NumAt.take {k : IntKind} {Z : Nat} {w : World} {a : Option Addr} {l : List Int} (h : NumAt k Z w a l) (j : Nat) : NumAt k Z w a (l.take j) := fun i hi => by
  simp only [List.length_take] at hi
  obtain ⟨g, o, e, hz, hc⟩ := h i (by omega)
  refine ⟨g, o, e, hz, ?_⟩
  rw [hc, List.getD_eq_getElem?_getD, List.getD_eq_getElem?_getD, List.getElem?_take, if_pos (by omega)]
/-- Numbers of a call's own. -/
def nC (k : IntKind) (x : Int) : List Value := [.int k x]
theorem nC_len (k : IntKind) (x : Int) : (nC k x).length = 1 := rfl
theorem nC_one (k : IntKind) (x : Int) : ∀ u ∈ nC k x, u.oneCell' = true := fun u hu => by
  obtain rfl : u = .int k x := by simpa [nC] using hu
  rfl
def R8 (B : Nat) (w : World) (v : Value) (xs : List Int) : Prop := Row B 5 1 (nC .u8) w v xs
def R32 (B : Nat) (w : World) (v : Value) (xs : List Int) : Prop := Row B 40 1 (nC .u32) w v xs
theorem info8 : (Try.prog.info? 5).map (fun i => (i.zero, i.size, i.bytes)) = some (some (.int .u8 0), 1, 1) := by kernel_rfl
theorem info32 : (Try.prog.info? 40).map (fun i => (i.zero, i.size, i.bytes)) = some (some (.int .u32 0), 1, 4) := by kernel_rfl
theorem Row.num {k : IntKind} {T : TypeId} {B : Nat} {w : World} {a : Option Addr} {n c : Nat} {xs : List Int} (h : Row B T 1 (nC k) w (.slice a n c) xs) : NumAt k w.heap.size w a xs := fun i hi => by
  obtain ⟨g, cap, e, _⟩ := Row.own h (by omega)
  injection e with e1 e2 e3
  subst e1 e2 e3
  exact ⟨g, 0, rfl, (Row.lt h g rfl).2, Row.cell (nC_len k) h (k := i) (x := xs[i]) (List.getElem?_eq_getElem hi) (j := 0) (u := .int k (xs.getD i 0)) (by simp [nC, List.getD_eq_getElem?_getD, hi]) (by omega)⟩
theorem Row.numF {k : IntKind} {T : TypeId} {B : Nat} {w : World} {v : Value} {xs : List Int} (h : Row B T 1 (nC k) w v xs) : ∃ a c, v = .slice a xs.length c ∧ NumAt k w.heap.size w a xs ∧ xs.length ≤ c := by
  obtain ⟨a, c, rfl⟩ := Row.form h
  exact ⟨a, c, rfl, h.num, h.capLe.2.1⟩
theorem num_src {k : IntKind} {Z : Nat} {W : World} {sa : Option Addr} {ys : List Int} (h : NumAt k Z W sa ys) : ∀ i x, ys[i]? = some x → ∃ g o, sa = some ⟨g, o, none⟩ ∧ ∀ j u, (nC k x)[j]? = some u → W.cell? ⟨g, o + (i * 1 + j), none⟩ = some u := fun i x hx => by
  obtain ⟨hi, hx'⟩ := List.getElem?_eq_some_iff.1 hx
  obtain ⟨g, o, e, _, hc⟩ := h i hi
  refine ⟨g, o, e, fun j u hu => ?_⟩
  match j, hu with
  | 0, hu =>
    simp only [nC, List.getElem?_cons_zero, Option.some.injEq] at hu
    subst hu
    rw [Nat.mul_one, Nat.add_zero, hc, List.getD_eq_getElem?_getD, hx]
    rfl
  | j + 1, hu => simp [nC] at hu
theorem R8.appN {B : Nat} {W : World} {v : Value} {xs : List Int} (ys : List Int) (ty : TypeId) (h : R8 B W v xs) (hB : B ≤ W.heap.size) (hl : xs.length ≤ 1000000) (hy : ys.length ≤ 1000000) {sa : Option Addr} {sc Z : Nat} (hsrc : NumAt .u8 Z W sa ys) : ∃ v' w', (Builtin.append_ #[23, 23] ty #[v, .slice sa ys.length sc]).run Try.prog W = .ok v' w' ∧ (R8 B w' v' (xs ++ ys) ∧ Fr (fun q => v.ownBlock = some q) W w' ∧ ∀ k, v'.ownBlock = some k → v.ownBlock = some k ∨ W.heap.size ≤ k) :=
  Row.appN 23 ty Try.underlying23 info8 rfl (by decide) (by decide) (nC_len _) (nC_one _) ys h hB hl hy (num_src hsrc)
theorem R32.appN {B : Nat} {W : World} {v : Value} {xs : List Int} (ys : List Int) (ty : TypeId) (h : R32 B W v xs) (hB : B ≤ W.heap.size) (hl : xs.length ≤ 1000000) (hy : ys.length ≤ 1000000) {sa : Option Addr} {sc Z : Nat} (hsrc : NumAt .u32 Z W sa ys) : ∃ v' w', (Builtin.append_ #[22, 22] ty #[v, .slice sa ys.length sc]).run Try.prog W = .ok v' w' ∧ (R32 B w' v' (xs ++ ys) ∧ Fr (fun q => v.ownBlock = some q) W w' ∧ ∀ k, v'.ownBlock = some k → v.ownBlock = some k ∨ W.heap.size ≤ k) :=
  Row.appN 22 ty Try.underlying22 info32 rfl (by decide) (by decide) (nC_len _) (nC_one _) ys h hB hl hy (num_src hsrc)
theorem bx_num {k : IntKind} {T : TypeId} {w : World} {g : Nat} (l : List Int) (h : Bx w g (l.map (fun x => Value.int k x)).toArray T) : NumAt k w.heap.size w (some ⟨g, 0, none⟩) l := fun i hi => ⟨g, 0, rfl, h.lt, by
  rw [Nat.zero_add]
  refine h.cell ?_
  simp [List.getD_eq_getElem?_getD, List.getElem?_eq_getElem hi]⟩
/-- A literal is a row of the call's own. -/
theorem bx_row {k : IntKind} {T : TypeId} {B : Nat} {w : World} {g : Nat} (l : List Int) (h : Bx w g (l.map (fun x => Value.int k x)).toArray T) (hb : B ≤ g) (hl : l.length ≤ 9223372036854775807) : Row B T 1 (nC k) w (.slice (some ⟨g, 0, none⟩) l.length l.length) l := by
  have hf : l.flatMap (nC k) = l.map (fun x => Value.int k x) := by
    clear h hl
    induction l with
    | nil => rfl
    | cons x l ih => rw [List.flatMap_cons, List.map_cons, ih]; rfl
  exact ⟨by rw [flat_len (nC_len k)], .inr ⟨g, l.length, _, rfl, hb, h, Nat.le_refl _, hl, by simp, by rw [hf, Nat.mul_one]; exact List.take_of_length_le (by simp)⟩⟩
theorem cv_i8 (w : World) (m : Int) : (convert 3 5 (.int .i64 m)).run Try.prog w = .ok (.int .u8 (m % 256)) w := by
  have h : IntKind.u8.wrap m = m % 256 := IntKind.wrap_u8 m
  simp [go_sem, h]
theorem cv_u8 (w : World) (m : Int) : (convert 40 5 (.int .u32 m)).run Try.prog w = .ok (.int .u8 (m % 256)) w := by
  have h : IntKind.u8.wrap m = m % 256 := IntKind.wrap_u8 m
  simp [go_sem, h]
/-- A row of the call's own, or a literal turned into bytes: full, and not to be written behind its end. -/
def G8 (B : Nat) (w : World) (v : Value) (xs : List Int) : Prop := R8 B w v xs ∨ 0 < xs.length ∧ ∃ g cur fz, v = .slice (some ⟨g, 0, none⟩) xs.length xs.length ∧ B ≤ g ∧ w.heap[g]? = some (.cells cur 5 fz) ∧ NumAt .u8 w.heap.size w (some ⟨g, 0, none⟩) xs
theorem G8.fr {B : Nat} {w w' : World} {v : Value} {xs : List Int} (h : G8 B w v xs) (f : Fr (fun _ => False) w w') : G8 B w' v xs := by
  rcases h with h | ⟨h0, g, cur, fz, h1, h2, h3, h4⟩
  · exact .inl (Row.fr h f (fun _ _ => id))
  · exact .inr ⟨h0, g, cur, fz, h1, h2, (f.block g (Array.getElem?_eq_some_iff.1 h3).1 id).trans h3, (h4.fr f).up f.size⟩
theorem G8.own {B : Nat} {w : World} {v : Value} {xs : List Int} (h : G8 B w v xs) : ∀ k, v.ownBlock = some k → B ≤ k ∧ ∃ cur fz, w.heap[k]? = some (.cells cur 5 fz) := fun k hk => by
  rcases h with h | ⟨h0, g, cur, fz, rfl, h2, h3, h4⟩
  · obtain ⟨cur, hc⟩ := Row.typ h k hk
    exact ⟨(Row.lt h k hk).1, cur, _, hc⟩
  · have : g = k := by simpa [Value.ownBlock] using hk
    subst this
    exact ⟨h2, cur, fz, h3⟩
theorem G8.ne {B : Nat} {w : World} {v : Value} {xs : List Int} (h : G8 B w v xs) {g : Nat} {z : Array Value} {t : TypeId} (hb : Bx w g z t) (ht : 5 ≠ t) : v.ownBlock ≠ some g := fun hk => by
  obtain ⟨_, cur, fz, hc⟩ := h.own g hk
  rw [show w.heap[g]? = _ from hb] at hc
  exact ht (by have := Option.some.inj hc; injection this with _ h2 _; exact h2.symm)
theorem R8.ne {B : Nat} {w : World} {v : Value} {xs : List Int} (h : R8 B w v xs) {g : Nat} {z : Array Value} {t : TypeId} (hb : Bx w g z t) (ht : 5 ≠ t) : v.ownBlock ≠ some g := Row.apart_typ h hb ht
theorem conv_mark {w : World} {g : Nat} {z : Array Value} (h : Bx w g z 5) (n c : Nat) : ∃ w', (convert 23 23 (.slice (some ⟨g, 0, none⟩) n c)).run Try.prog w = .ok (.slice (some ⟨g, 0, none⟩) n c) w' ∧ Fr (fun q => q = g) w w' ∧ (∃ fz, w'.heap[g]? = some (.cells z 5 fz)) ∧ w'.heap.size = w.heap.size := by
  have hs : w.shape? g = some (5, z.size) := by unfold World.shape?; rw [show w.heap[g]? = _ from h]
  have hm : (w.freeze ⟨g, z.size, none⟩ 1).heap = w.heap.modify g (fun | .cells c elem (lo, hi) => .cells c elem (if lo == hi then (z.size, z.size + 1) else (min lo z.size, max hi (z.size + 1))) | o => o) := by unfold World.freeze; rw [if_neg (by decide)]; rfl
  refine ⟨w.freeze ⟨g, z.size, none⟩ 1, by simp [convert, run_underlying Try.underlying23, run_underlying Try.underlying5, markStringish, hs, go_sem], ?_, ?_, ?_⟩
  · refine ⟨by unfold World.freeze; rw [if_neg (by decide)], by unfold World.freeze; rw [if_neg (by decide)], by rw [hm, Array.size_modify]; exact Nat.le_refl _, fun k hk hn => ?_⟩
    rw [hm, Array.getElem?_modify, if_neg (fun e => hn e.symm)]
  · rw [hm, Array.getElem?_modify, if_pos rfl, show w.heap[g]? = _ from h]
    exact ⟨_, rfl⟩
  · rw [hm, Array.size_modify]
theorem G8.app {B : Nat} {W : World} {v : Value} {xs : List Int} (ys : List Int) (ty : TypeId) (h : G8 B W v xs) (hB : B ≤ W.heap.size) (hl : xs.length ≤ 1000000) (hy0 : 0 < ys.length) (hy : ys.length ≤ 1000000) {sa : Option Addr} {sc Z : Nat} (hsrc : NumAt .u8 Z W sa ys) : ∃ v' w', (Builtin.append_ #[23, 23] ty #[v, .slice sa ys.length sc]).run Try.prog W = .ok v' w' ∧ (R8 B w' v' (xs ++ ys) ∧ Fr (fun q => v.ownBlock = some q) W w' ∧ ∀ k, v'.ownBlock = some k → v.ownBlock = some k ∨ W.heap.size ≤ k) := by
  rcases h with h | ⟨h0, g, cur, fz, rfl, h2, h3, h4⟩
  · exact R8.appN ys ty h hB hl hy hsrc
  obtain ⟨sg, so, rfl, _⟩ := hsrc.form hy0
  obtain ⟨i0, hi, hz0, hz1, hz2⟩ := info_row info8
  have hm : ∀ l : List Int, l.flatMap (nC .u8) = l.map (fun x => Value.int .u8 x) := fun l => by
    induction l with
    | nil => rfl
    | cons x l ih => rw [List.flatMap_cons, List.map_cons, ih]; rfl
  have cells : ∀ (l : List Int) (Z g o : Nat), NumAt .u8 Z W (some ⟨g, o, none⟩) l → ∀ j u, (l.map fun x => Value.int .u8 x)[j]? = some u → W.cell? ((⟨g, o, none⟩ : Addr).add j) = some u := fun l Z g o hn j u hu => by
    rw [List.getElem?_map] at hu
    obtain ⟨x, hx, rfl⟩ := Option.map_eq_some_iff.1 hu
    obtain ⟨hj, hx'⟩ := List.getElem?_eq_some_iff.1 hx
    rw [Addr.add_lit, hn.at0 hj, List.getD_eq_getElem?_getD, hx]
    rfl
  have hr := run_append_grow (P := Try.prog) (w := W) 23 ty 5 i0 (.int .u8 0) Try.underlying23 hi hz0 ⟨g, 0, none⟩ xs.length xs.length (xs.map fun x => Value.int .u8 x) (by rw [List.length_map, hz1, Nat.mul_one]) (cells _ _ _ _ h4) ⟨sg, so, none⟩ ys.length sc (ys.map fun x => Value.int .u8 x) (by rw [List.length_map, hz1, Nat.mul_one]) (cells _ _ _ _ hsrc) (by omega) (by omega) (growslice_fits (by omega) (by rw [hz2]; omega))
  refine ⟨_, _, hr, ?_, ?_, fun k hk => ?_⟩
  · refine ⟨by rw [flat_len (nC_len _)], .inr ⟨W.heap.size, _, _, by rw [List.length_append], hB, heap_alloc_new W.drew _, by rw [List.length_append]; exact grownCap_ge W _ _ _, grownCap_le_maxLen W _ _ _ (by unfold maxLen; omega), ?_, ?_⟩⟩
    · have hge := grownCap_ge W (xs.length + ys.length) xs.length 5
      simp only [Array.size_append, List.size_toArray, List.length_map, size_zeroCells, show (Value.int .u8 0).cells.size = 1 from rfl, Nat.mul_one]
      omega
    · rw [hm, List.map_append, List.length_append, Nat.mul_one]
      simp only [Array.toList_append]
      exact List.take_left' (by simp)
  · exact (fr_al ((Fr.refl _ _).drewN 1) _)
  · exact .inr (by have : W.heap.size = k := by simpa [Value.ownBlock] using hk
                   omega)
theorem sh8 (w : World) (x y : Operand) (m : Int) (h0 : 0 ≤ m) : ((do eqGuard .shr 40 x y (.int .u32 m) (.int .u64 8); binOp .shr 40 (.int .u32 m) (.int .u64 8) : Sem Value)).run Try.prog w = .ok (.int .u32 (m / 256)) w := by simp [go_sem, Int.shiftRight_eq_div_pow]
theorem sh16 (w : World) (x y : Operand) (m : Int) (h0 : 0 ≤ m) : ((do eqGuard .shr 40 x y (.int .u32 m) (.int .u64 16); binOp .shr 40 (.int .u32 m) (.int .u64 16) : Sem Value)).run Try.prog w = .ok (.int .u32 (m / 65536)) w := by simp [go_sem, Int.shiftRight_eq_div_pow]
theorem sh24 (w : World) (x y : Operand) (m : Int) (h0 : 0 ≤ m) : ((do eqGuard .shr 40 x y (.int .u32 m) (.int .u64 24); binOp .shr 40 (.int .u32 m) (.int .u64 24) : Sem Value)).run Try.prog w = .ok (.int .u32 (m / 16777216)) w := by simp [go_sem, Int.shiftRight_eq_div_pow]
theorem bi_min (w : World) (ty : TypeId) (m n : Int) : (Builtin.min_ #[3, 3] ty #[.int .i64 m, .int .i64 n]).run Try.prog w = .ok (.int .i64 (min m n)) w := by
  by_cases h : n < m
  · have e : min m n = n := by omega
    rw [e]; simp [go_sem, Builtin.min_, Builtin.min2]; omega
  · have e : min m n = m := by omega
    rw [e]; simp [go_sem, Builtin.min_, Builtin.min2]; omega
theorem O.bmin {P : Program} {ops : Array Oper} {N : Nat} {Q : Exit → Act → World → Prop} {s : List (Nat × Value)} {l : List Oper} {o : Oper} {d : Nat} {w : World} {x y : Operand} {t t2 : TypeId} {u u2 v : Value} (hop : o.op = .call ⟨.builtin .min, #[x, y], #[t, t2]⟩) (hd : o.dst = some d) (hN : Nat.blt d N = true) (hg : gd ops s o = some true) (hu : ev s x = some u) (hu2 : ev s y = some u2) (hr : (Builtin.min_ #[t, t2] o.type #[u, u2]).run P w = .ok v w) (h : WL P ops N Q ((d, v) :: s) l w) : WL P ops N Q s (o :: l) w :=
  WL.run hd hN hg (fun a k => by
    have h1 := k.eval hu
    have h2 := k.eval hu2
    unfold execOp
    rw [hop]
    generalize a.eval = e at *
    simp [go_sem, h1, h2, hr]) h
/-- From a place on. -/
theorem sl_from (T : TypeId) (hT : Try.prog.underlying T = some (.slice 5)) {w : World} {a : Option Addr} {l : List Int} {c Z : Nat} (h : NumAt .u8 Z w a l) (j : Nat) (hj : j ≤ l.length) (hc : l.length ≤ c) : ∃ a2, (∀ W, (Instr.sliceAt T (.slice a l.length c) (some (.int .i64 (j : Int))) none none).run Try.prog W = .ok (.slice a2 (l.drop j).length (c - j)) W) ∧ NumAt .u8 Z w a2 (l.drop j) ∧ (l.drop j).length ≤ c - j := by
  refine ⟨if c = j then a else a.map (·.add (j * 1)), fun W => ?_, fun i hi => ?_, by simp; omega⟩
  · have hz : Try.prog.cellsOf 5 = 1 := by kernel_rfl
    have hj2 : (j : Int) ≤ (l.length : Int) := by omega
    simp [Instr.sliceAt, Instr.slice, Instr.sliceBounds, Instr.sliceBound, run_underlying hT, go_sem, asIntOf, hj]
  · rw [List.length_drop] at hi
    obtain ⟨g, o, rfl, hz, hcell⟩ := h (j + i) (by omega)
    rw [if_neg (by omega)]
    refine ⟨g, o + j, by simp [Addr.add], hz, ?_⟩
    rw [Nat.add_assoc, hcell, List.getD_eq_getElem?_getD, List.getD_eq_getElem?_getD, List.getElem?_drop]
/-- Up to a place. -/
theorem sl_to (T : TypeId) (hT : Try.prog.underlying T = some (.slice 5)) (a : Option Addr) (n c j : Nat) (hj : j ≤ c) (W : World) : (Instr.sliceAt T (.slice a n c) none (some (.int .i64 (j : Int))) none).run Try.prog W = .ok (.slice a j c) W := by
  have hj2 : (j : Int) ≤ (c : Int) := by omega
  cases a with
  | none => simp [Instr.sliceAt, Instr.slice, Instr.sliceBounds, Instr.sliceBound, run_underlying hT, go_sem, asIntOf, hj]
  | some a => simp [Instr.sliceAt, Instr.slice, Instr.sliceBounds, Instr.sliceBound, run_underlying hT, go_sem, asIntOf, hj, Addr.add]
end Go.Proofs.Ytcombjhkbjbncaa
