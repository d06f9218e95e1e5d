/-
  Flow (layer 16): what is live: rows and tables as they are filled.
-/
import Derived.Test.YtobibplilbchfaaLvE
import Derived.Test.YtobibplilbchfaaRg
namespace Go.Proofs.Ytobibplilbchfaa
open Go.RowKit
set_option linter.unusedVariables false
set_option linter.unusedSimpArgs false
set_option linter.unnecessarySimpa false
theorem Tbl.inplace {α : Type} {B : Nat} {te ts : TypeId} {f : α → List Value} {w w2 : World} {S n : Nat} {vs : List Value} {xss : List (List α)} (h : Tbl B te ts f w S n vs xss) (hne : te ≠ ts) {k : Nat} (hk : k < n) {ys : List α} (hr2 : Row B te 1 f w2 (vs.getD k nilS) ys) (hF : Fr (fun q => (vs.getD k nilS).ownBlock = some q) w w2) : Tbl B te ts f w2 S n vs (xss.set k ys) := by
  obtain ⟨cS, hcS⟩ := h.hs.typ S rfl
  refine ⟨h.hs.fr hF (fun q e e2 => by cases e; exact ((h.hr k hk).apart_typ hcS hne) e2), h.hl, by rw [List.length_set, h.hx], fun j hj => ?_, h.ap⟩
  rw [getD_setV _ _ _ _ _ (by rw [h.hx]; exact hk)]
  by_cases e : j = k
  · subst e; rw [if_pos rfl]; exact hr2
  · rw [if_neg e]
    exact (h.hr j hj).fr hF (fun q e1 e2 => h.ap j k hj hk e q e1 e2)
theorem Tbl.inrow {B : Nat} {w w2 : World} {S n : Nat} {vs : List Value} {xss : List (List Bool)} (h : Tbl B 4 30 bC w S n vs xss) {k : Nat} (hk : k < n) {g c m : Nat} (hv : vs.getD k nilS = .slice (some ⟨g, 0, none⟩) m c) {ys : List Bool} (hr2 : Bools B w2 (.slice (some ⟨g, 0, none⟩) m c) ys) (hF : Fr (fun q => q = g) w w2) : Tbl B 4 30 bC w2 S n vs (xss.set k ys) :=
  h.inplace (by decide) hk (by rw [hv]; exact hr2) (hF.mono fun q _ e => by rw [hv, e]; rfl)
theorem t_readM (B B2 g c : Nat) (xs : List Bool) (m : Nat) (hm : xs.length = m) (rv : Value) (rs : List Int) (hrl : rs.length ≤ 1000000) (w : World) (hL : Bools B w (.slice (some ⟨g, 0, none⟩) m c) xs) (hR : Ints B2 w rv rs) : Calls Try.prog 28 #[.slice (some ⟨g, 0, none⟩) m c, rv] w fun e w' => e = .returned (.tuple #[]) ∧ Bools B w' (.slice (some ⟨g, 0, none⟩) m c) (readL xs rs) ∧ Fr (fun q => q = g) w w' := by
  subst hm
  exact t_read B B2 g c xs rv rs hrl w hL hR
theorem t_passM (B B2 g c : Nat) (xs : List Bool) (m : Nat) (hm : xs.length = m) (d : Int) (rv : Value) (rs : List Int) (hrl : rs.length ≤ 1000000) (w : World) (hL : Bools B w (.slice (some ⟨g, 0, none⟩) m c) xs) (hR : Ints B2 w rv rs) : Calls Try.prog 32 #[.slice (some ⟨g, 0, none⟩) m c, .agg #[.int .i64 d, rv]] w fun e w' => e = .returned (.tuple #[]) ∧ Bools B w' (.slice (some ⟨g, 0, none⟩) m c) (passL xs d rs) ∧ Fr (fun q => q = g) w w' := by
  subst hm
  exact t_pass B B2 g c xs d rv rs hrl w hL hR
theorem copyM {B B2 g h cp cp2 m : Nat} {w : World} {xs ys : List Bool} (ty : TypeId) (hx : xs.length = m) (hy : ys.length = m) (hd : Bools B w (.slice (some ⟨g, 0, none⟩) m cp) xs) (hs : Bools B2 w (.slice (some ⟨h, 0, none⟩) m cp2) ys) : ∃ v' w', (Builtin.copy_ #[30, 30] ty #[.slice (some ⟨g, 0, none⟩) m cp, .slice (some ⟨h, 0, none⟩) m cp2]).run Try.prog w = .ok v' w' ∧ (Bools B w' (.slice (some ⟨g, 0, none⟩) m cp) ys ∧ Fr (fun q => q = g) w w') := by
  subst hx
  have hs' : Row B2 4 1 bC w (.slice (some ⟨h, 0, none⟩) ys.length cp2) ys := by rw [hy]; exact hs
  have := Row.copy (P := Try.prog) 30 ty Try.underlying30 (by kernel_rfl) bC_len bC_one (g := g) (h := h) (cp := cp) (cp2 := cp2) hd hs' hy
  rw [hy] at this
  exact this
/-- A table of which a part is done. -/
def tabG {α : Type} (f : Nat → List α) (d : List α) (n j : Nat) : List (List α) := (List.range n).map fun k => if k < j then f k else d
section
variable {α : Type} {f : Nat → List α} {d : List α} {n j : Nat}
theorem tabG_len : (tabG f d n j).length = n := by simp [tabG]
theorem tabG_zero : tabG f d n 0 = List.replicate n d := by
  refine List.ext_getElem (by simp [tabG]) fun k h1 h2 => ?_
  simp [tabG]
theorem tabG_get (k : Nat) (hk : k < n) : (tabG f d n j).getD k [] = if k < j then f k else d := by
  unfold tabG
  simp [List.getD_eq_getElem?_getD, hk]
theorem tabG_succ (hj : j < n) : (tabG f d n j).set j (f j) = tabG f d n (j + 1) := by
  refine List.ext_getElem (by simp [tabG]) fun k h1 h2 => ?_
  have hk : k < n := by simpa [tabG] using h2
  rw [List.getElem_set]
  by_cases q : j = k
  · subst q; simp [tabG]
  · rw [if_neg q]
    simp only [tabG, List.getElem_map, List.getElem_range]
    by_cases h : k < j
    · rw [if_pos h, if_pos (by omega)]
    · rw [if_neg h, if_neg (by omega)]
theorem tabG_set (hj : j < n) (x : List α) : ((tabG f d n j).set j x).getD j [] = x := by
  rw [getD_setV _ _ _ _ _ (by rw [tabG_len]; exact hj), if_pos rfl]
theorem tabG_self (hj : j < n) : (tabG f d n j).set j d = tabG f d n j := by
  refine List.ext_getElem (by simp [tabG]) fun k h1 h2 => ?_
  rw [List.getElem_set]
  by_cases q : j = k
  · subst q; simp [tabG]
  · rw [if_neg q]
end
def endRow (b : Bk) (m : Nat) : List Bool := readL (List.replicate m false) (endR b)
def passI (l : List Bool) (i : Inn) : List Bool := passL l (defF i) (usesF i)
def genRow (b : Bk) (m : Nat) : List Bool := b.ins.reverse.foldl passI (endRow b m)
def setRow (b : Bk) : List Int := (b.ins.reverse.map defF).mergeSort fun x y => decide (x ≤ y)
theorem endRow_len (b : Bk) (m : Nat) : (endRow b m).length = m := by unfold endRow; rw [readL_len]; simp
theorem fold_len (is : List Inn) : ∀ l : List Bool, (is.foldl passI l).length = l.length := by
  induction is with
  | nil => intro l; rfl
  | cons i is ih => intro l; show (is.foldl passI (passI l i)).length = _; rw [ih]; exact passL_len _ _ _
theorem genRow_len (b : Bk) (m : Nat) : (genRow b m).length = m := by unfold genRow; rw [fold_len, endRow_len]
theorem setRow_len (b : Bk) : (setRow b).length = b.ins.length := by unfold setRow; rw [List.length_mergeSort]; simp
theorem setRow_pair (b : Bk) : (setRow b).Pairwise (· ≤ ·) := by
  have := List.pairwise_mergeSort (le := fun x y : Int => decide (x ≤ y)) (fun a b c h1 h2 => by simp at *; omega) (fun a b => by simp; omega) (b.ins.reverse.map defF)
  exact this.imp fun h => by simpa using h
theorem setRow_mem (b : Bk) (x : Int) : x ∈ setRow b ↔ ∃ i ∈ b.ins, defF i = x := by
  unfold setRow
  rw [List.mem_mergeSort, List.mem_map]
  simp
/-- A cell of a row behind what is set or read. -/
theorem set1_get (l : List Bool) (r : Int) (b : Bool) (q : Nat) (hq : q < l.length) : (set1 l r b).getD q false = if r = (q : Int) then b else l.getD q false := by
  unfold set1
  by_cases h : inR l.length r = true
  · obtain ⟨h1, h2⟩ := inR_yes h
    rw [if_pos h, getD_setV _ _ _ _ _ (by omega)]
    by_cases e : r = (q : Int)
    · rw [if_pos e, if_pos (by omega)]
    · rw [if_neg e, if_neg (by omega)]
  · rw [if_neg h]
    by_cases e : r = (q : Int)
    · exact absurd (by unfold inR; rw [e, decide_eq_true (show (0 : Int) ≤ q by omega), decide_eq_true (show (q : Int) < l.length by omega)]; rfl) h
    · rw [if_neg e]
theorem readL_get (rs : List Int) : ∀ (l : List Bool) (q : Nat), q < l.length → ((readL l rs).getD q false = true ↔ (q : Int) ∈ rs ∨ l.getD q false = true) := by
  induction rs with
  | nil => intro l q hq; simp [readL]
  | cons r rs ih =>
    intro l q hq
    have h := ih (set1 l r true) q (by rw [set1_len]; exact hq)
    rw [set1_get _ _ _ _ hq] at h
    show (readL (set1 l r true) rs).getD q false = true ↔ _
    rw [h, List.mem_cons]
    by_cases e : r = (q : Int)
    · rw [if_pos e]; simp [e]
    · rw [if_neg e]
      have : ¬(q : Int) = r := fun q2 => e q2.symm
      simp [this]
theorem passI_get (l : List Bool) (i : Inn) (q : Nat) (hq : q < l.length) : (passI l i).getD q false = true ↔ (q : Int) ∈ usesF i ∨ (defF i ≠ (q : Int) ∧ l.getD q false = true) := by
  unfold passI passL
  rw [readL_get _ _ _ (by rw [set1_len]; exact hq), set1_get _ _ _ _ hq]
  by_cases e : defF i = (q : Int)
  · rw [if_pos e]; simp [e]
  · rw [if_neg e]; simp [e]
theorem endRow_get (b : Bk) (m q : Nat) (hq : q < m) : (endRow b m).getD q false = true ↔ (q : Int) ∈ endR b := by
  unfold endRow
  rw [readL_get _ _ _ (by simpa using hq), getD_rep]
  simp
theorem fold_keep (q : Nat) : ∀ (is : List Inn) (l : List Bool), q < l.length → l.getD q false = true → (∀ i ∈ is, defF i ≠ (q : Int)) → (is.foldl passI l).getD q false = true := by
  intro is
  induction is with
  | nil => intro l _ h _; exact h
  | cons i is ih =>
    intro l hq h hn
    refine ih (passI l i) (by unfold passI; rw [passL_len]; exact hq) ?_ (fun i' hi' => hn i' (by simp [hi']))
    rw [passI_get _ _ _ hq]
    exact .inr ⟨hn i (by simp), h⟩
theorem gen_keep (b : Bk) (m q : Nat) (hq : q < m) (h : (endRow b m).getD q false = true) : (q : Int) ∈ setRow b ∨ (genRow b m).getD q false = true := by
  by_cases e : (q : Int) ∈ setRow b
  · exact .inl e
  · refine .inr (fold_keep q _ _ (by rw [endRow_len]; exact hq) h fun i hi hd => e ((setRow_mem b q).2 ⟨i, by simpa using hi, hd⟩))
theorem Bx.frT {w w' : World} {g go : Nat} {z zz : Array Value} {t tb : TypeId} (h : Bx w g z t) (hF : Fr (fun q => q = go) w w') (hzz : w.heap[go]? = some (.cells zz tb (0, 0))) (hne : t ≠ tb) : Bx w' g z t := h.fr hF (fun e => typ_ne h hzz hne e)
theorem Bx.frO {α : Type} {w w' : World} {g B : Nat} {z : Array Value} {t e : TypeId} {c : Nat} {f : α → List Value} {v : Value} {xs : List α} (h : Bx w g z t) (hF : Fr (fun q => v.ownBlock = some q) w w') (hr : Row B e c f w v xs) (hne : e ≠ t) : Bx w' g z t := h.fr hF (fun q => hr.apart_typ (show w.heap[g]? = _ from h) hne q)
theorem Tbl.frO {α β : Type} {B B' : Nat} {te ts e : TypeId} {f : α → List Value} {f2 : β → List Value} {c : Nat} {w w' : World} {S n : Nat} {vs : List Value} {xss : List (List α)} {v : Value} {xs : List β} (h : Tbl B te ts f w S n vs xss) (hF : Fr (fun q => v.ownBlock = some q) w w') (hr : Row B' e c f2 w v xs) (h1 : te ≠ e) (h2 : ts ≠ e) : Tbl B te ts f w' S n vs xss := by
  refine h.fr hF (fun q => ?_) (fun k hk q e1 e2 => ?_)
  · obtain ⟨cu, hc⟩ := hr.typ S q
    exact (h.hs.apart_typ hc h2) rfl
  · obtain ⟨cu, hc⟩ := hr.typ q e2
    exact ((h.hr k hk).apart_typ hc h1) e1
theorem fold_rev {n : Nat} (L : List Inn) (hn : n = L.length) (xs : List {k : Nat // k < n}) (h : xs.map (·.1) = (List.range n).reverse) (e : List Bool) : xs.foldl (fun l x => passI l (L.getD x.1 inn0)) e = L.reverse.foldl passI e := by
  subst hn
  have h1 : xs.foldl (fun l x => passI l (L.getD x.1 inn0)) e = ((xs.map (·.1)).map fun k => L.getD k inn0).foldl passI e := by rw [List.foldl_map, List.foldl_map]
  rw [h1, h, List.map_reverse]
  congr 2
  refine List.ext_getElem (by simp) fun k h1 h2 => ?_
  simp [List.getD_eq_getElem?_getD, h2]
theorem map_rev {n : Nat} (L : List Inn) (hn : n = L.length) (xs : List {k : Nat // k < n}) (h : xs.map (·.1) = (List.range n).reverse) : xs.map (fun x => defF (L.getD x.1 inn0)) = L.reverse.map defF := by
  subst hn
  have h1 : xs.map (fun x => defF (L.getD x.1 inn0)) = ((xs.map (·.1)).map fun k => L.getD k inn0).map defF := by simp
  rw [h1, h, List.map_reverse]
  congr 2
  refine List.ext_getElem (by simp) fun k h1 h2 => ?_
  simp [List.getD_eq_getElem?_getD, h2]
namespace M
theorem below_fr {w W : World} (h : Below w.heap.size w W) : Fr (fun _ => False) w W := ⟨h.os, h.output, h.size, fun k hk _ => h.block k hk⟩
theorem Tbl_nc {α : Type} {B Bb : Nat} {te ts : TypeId} {f : α → List Value} {W W' : World} {S n : Nat} {vs : List Value} {xss : List (List α)} {F : Nat → Prop} (h : Tbl B te ts f W S n vs xss) (hf : Fr F W W') (nc : NC W Bb F) : Tbl B te ts f W' S n vs xss :=
  h.fr hf (fun hF => nc.row h.hs S rfl hF) (fun k hk => nc.row (h.hr k hk))
theorem Tbl_mks {α : Type} {B : Nat} {te ts : TypeId} {f : α → List Value} {W W' : World} {S n : Nat} {vs : List Value} {xss : List (List α)} {ds : List Nat} (h : Tbl B te ts f W S n vs xss) (hM : Mks ds W) (hf : Fr (fun q => q ∈ ds) W W') : Tbl B te ts f W' S n vs xss :=
  h.fr hf (fun hF => hM.own h.hs S hF rfl) (fun k hk q e hq => hM.own (h.hr k hk) q hq e)
theorem Mks.bx {ds : List Nat} {W : World} (hM : Mks ds W) {g : Nat} {z : Array Value} {t : TypeId} (hb : Bx W g z t) : ∀ d ∈ ds, d ≠ g := hM.ne hb
end M
end Go.Proofs.Ytobibplilbchfaa
