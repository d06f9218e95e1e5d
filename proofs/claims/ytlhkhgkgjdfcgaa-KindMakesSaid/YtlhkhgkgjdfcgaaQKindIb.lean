/-
  Tables of types (layer 8): the acts of a list, on both tables.
-/
import Derived.Test.YtlhkhgkgjdfcgaaQKindHb
import Derived.LoopTactic
import Derived.Deep.RegionHeld3
import Derived.Outline
namespace Go.Proofs.Ytlhkhgkgjdfcgaa
open Go.RowKit
set_option linter.unusedVariables false
set_option linter.unusedSimpArgs false
/-- Both tables, whatever they hold. -/
def BothS (w W : World) (tb : Nat) (a : Option Addr) (L : Nat) : Prop := ∃ es fss rs rk, L = rs.length ∧ Both w W tb a es fss rs rk
theorem BothS.fr {w W : World} {tb : Nat} {a : Option Addr} {L : Nat} (h : BothS w W tb a L) : Fr (fun _ => False) w W := by
  obtain ⟨es, fss, rs, rk, _, hb⟩ := h
  exact hb.tab.fr
theorem BothS.quiet {w W W' : World} {tb : Nat} {a : Option Addr} {L : Nat} (h : BothS w W tb a L) (hf : Fr (fun _ => False) W W') : BothS w W' tb a L := by
  obtain ⟨es, fss, rs, rk, e, hb⟩ := h
  exact ⟨es, fss, rs, rk, e, hb.quiet hf⟩
theorem done_boths {w0 W : World} {tb : Nat} {a : Option Addr} {L c : Nat} {y : ActV} {fs : List Fld} (h : BothS w0 W tb a L) (hfs : FldAt w0 y.fa y.fn fs) (hfew : fs.length ≤ 1000) (hnm : ∀ f ∈ fs, f.name.size ≤ maxLen) :
    Calls Try.prog 12 #[.agg #[.int .i64 y.kind, .int .i64 y.n, .int .i64 y.long, .string y.name, .slice y.fa y.fn y.fc], .pointer (some ⟨tb, 0, none⟩), .slice a L c] W fun r w' => ∃ A B a' L' c', r = .returned (.tuple #[.int .i64 A, .int .i64 B, .agg #[.int .i64 A, .slice a' L' c', .int .i64 B]]) ∧ BothS w0 w' tb a' L' := by
  obtain ⟨es, fss, rs, rk, rfl, hb⟩ := h
  have hfr : Fr (fun _ => False) w0 W := hb.tab.fr
  refine (done_both hb y fs (hfs.quiet hfr) (fun g o e hn => ?_) hfew hnm).mono fun r w' hr => ?_
  · have hlt := fld_lt hfs g o e hn
    exact ⟨(tabFace w0 tb es fss).old W g hb.tab hlt, Nat.lt_of_lt_of_le hlt hfr.size⟩
  · obtain ⟨A, B, a', c', es', fss', rs', rk', e, hb'⟩ := hr
    exact ⟨A, B, a', rs'.length, c', e, es', fss', rs', rk', rfl, hb'⟩
theorem new_both (w : World) : Calls Try.prog 10 #[] w fun r w' => r = .returned (.pointer (some ⟨w.heap.size, 0, none⟩)) ∧ Fr (fun _ => False) w w' ∧ w.heap.size < w'.heap.size ∧ Tab w w' w.heap.size [] (fun _ => []) :=
  (new_tab w).mono fun r w' hr => ⟨hr.1, hr.2.fr, by obtain ⟨v, hv, _⟩ := hr.2.ex; exact World.block_lt_of_cell? w' _ hv.cell, hr.2⟩
/-- After New and Begin: the first tables. -/
theorem both_start {w w1 w2 : World} (ht : Tab w w1 w.heap.size [] (fun _ => [])) (hf : Fr (fun _ => False) w1 w2) (hlt : w1.heap.size < w2.heap.size) (hr : RAt w2 (some ⟨w1.heap.size, 0, none⟩) 3 begin3) :
    BothS w w2 w.heap.size (some ⟨w1.heap.size, 0, none⟩) 3 := by
  refine ⟨[], fun _ => [], begin3, fun _ => 0, rfl, (tabFace w w.heap.size [] (fun _ => [])).quiet ht hf, Mat.start, ⟨hr, fun k hk => ?_⟩, fun g o e _ => ?_, fun k hk => ?_⟩
  · have e : dF (fun _ => []) k = [] := by unfold dF; split <;> rfl
    rw [e]
    refine ⟨⟨?_, fun i hi => absurd hi (Nat.not_lt_zero _)⟩, Nat.zero_le _⟩
    match k, hk with
    | 0, _ => rfl
    | 1, _ => rfl
    | 2, _ => rfl
  · injection e with e
    injection e with e
    subst e
    exact ⟨(tabFace w w.heap.size [] (fun _ => [])).offq ht hf ((tabFace w w.heap.size [] (fun _ => [])).new w1 _ ht (Nat.le_refl _)), hlt⟩
  · have e : dF (fun _ => []) k = [] := by unfold dF; split <;> rfl
    rw [e]
    exact fun g o _ hne => absurd rfl hne
/-- A name is that of one field only. -/
theorem fld_only {fs : List Fld} (hd : dupB fs = false) (nm : ByteArray) {j : Nat} (hj : j < fs.length) : isFld nm (fs.getD j fld0) = decide (j = fldK fs nm) := by
  have hs : ∀ i k, i < fs.length → k < i → sameN (fs.getD k fld0) (fs.getD i fld0) = false := fun i k hi hk => by
    cases hq : sameN (fs.getD k fld0) (fs.getD i fld0) with
    | false => rfl
    | true => rw [dup_yes hi hk hq] at hd; cases hd
  have hget : ∀ i (hi : i < fs.length), fs.getD i fld0 = fs[i] := fun i hi => by rw [List.getD_eq_getElem?_getD, List.getElem?_eq_getElem hi]; rfl
  by_cases hk : fldK fs nm < fs.length
  · have h1 : isFld nm (fs.getD (fldK fs nm) fld0) = true := by rw [hget _ hk]; exact List.findIdx_getElem (p := isFld nm) (w := hk)
    by_cases e : j = fldK fs nm
    · rw [decide_eq_true e, e]; exact h1
    · rw [decide_eq_false e]
      cases hq : isFld nm (fs.getD j fld0) with
      | false => rfl
      | true =>
        unfold isFld at h1 hq
        rw [beq_iff_eq] at h1 hq
        have hsame : ∀ i k, (fs.getD i fld0).name.toList = nm.toList → (fs.getD k fld0).name.toList = nm.toList → sameN (fs.getD k fld0) (fs.getD i fld0) = true := fun i k a b => by unfold sameN; rw [a, b]; exact beq_self_eq_true _
        rcases Nat.lt_or_gt_of_ne e with lt | gt
        · have := hs _ _ hk lt; rw [hsame _ _ h1 hq] at this; cases this
        · have := hs _ _ hj gt; rw [hsame _ _ hq h1] at this; cases this
  · rw [decide_eq_false (by omega), hget j hj]
    have h2 : fs.findIdx (isFld nm) = fs.length := by
      have := List.findIdx_le_length (p := isFld nm) (xs := fs)
      unfold fldK at hk; omega
    have := List.not_of_lt_findIdx (p := isFld nm) (xs := fs) (i := j) (by omega)
    simpa using this
/-- Two boxes, one behind the other. -/
theorem two_box {w3 W : World} {A B : Array Value} {t : TypeId} (h : Fr (fun _ => False) ((w3.alloc (.cells A t)).alloc (.cells B t)) W) : (∀ j v, A[j]? = some v → W.cell? ⟨w3.heap.size, j, none⟩ = some v) ∧ (∀ j v, B[j]? = some v → W.cell? ⟨w3.heap.size + 1, j, none⟩ = some v) := by
  refine ⟨fun j v hv => h.cell ((fr_al (Fr.refl (fun _ => False) _) _).cell (fcell w3 A t j v hv) id) id, fun j v hv => ?_⟩
  have := h.cell (fcell (w3.alloc (.cells A t)) B t j v hv) id
  simpa using this
theorem Mat.ent {es : List Ent} {fss : Nat → List Fld} {rs : List RT} {rk : Int → Nat} (h : Mat es fss rs rk) {N : Nat} (hN : N < rs.length) : entE es (N : Int) = 0 ∧ (entF es (N : Int)).kind = (rs.getD N rt0).kind ∧ (entF es (N : Int)).elem = (rs.getD N rt0).elem ∧ (entF es (N : Int)).len = (rs.getD N rt0).len ∧ (entF es (N : Int)).name = (rs.getD N rt0).name ∧ (entF es (N : Int)).fn = (rs.getD N rt0).fn := by
  have hl := h.len
  refine ⟨by unfold entE; rw [if_neg (by omega)], ?_⟩
  unfold entF
  rw [if_neg (by omega)]
  by_cases h3 : N < 3
  · rw [if_pos (by omega)]
    obtain ⟨a, b, c⟩ := h.first
    match N, h3 with
    | 0, _ => rw [a]; exact ⟨rfl, rfl, rfl, rfl, rfl⟩
    | 1, _ => rw [b]; exact ⟨rfl, rfl, rfl, rfl, rfl⟩
    | 2, _ => rw [c]; exact ⟨rfl, rfl, rfl, rfl, rfl⟩
  · rw [if_neg (by omega)]
    have e : ((N : Int) - 3).toNat = N - 3 := by omega
    rw [e]
    have hw := h.twin (N - 3) (by omega)
    have e2 : 3 + (N - 3) = N := by omega
    rw [e2] at hw
    exact ⟨hw.kind.symm, hw.elem.symm, hw.len.symm, hw.name.symm, hw.fn.symm⟩
/-- A field in both tables. -/
theorem Mat.field {es : List Ent} {fss : Nat → List Fld} {rs : List RT} {rk : Int → Nat} (h : Mat es fss rs rk) (m : Int) (nm : ByteArray) :
    (¬ (0 ≤ m ∧ m < rs.length) ∧ fieldA es fss m nm = fld0 ∧ fieldB es fss m nm = 4) ∨
    (∃ N : Nat, m = N ∧ N < rs.length ∧ (rs.getD N rt0).kind ≠ 5 ∧ fieldA es fss m nm = fld0 ∧ fieldB es fss m nm = 5) ∨
    (∃ N : Nat, m = N ∧ N < rs.length ∧ (rs.getD N rt0).kind = 5 ∧ fieldA es fss m nm = fldV (dF fss N) nm ∧ fieldB es fss m nm = fldE (dF fss N) nm) := by
  have hl := h.len
  by_cases hin : 0 ≤ m ∧ m < rs.length
  · obtain ⟨N, rfl⟩ := Int.eq_ofNat_of_zero_le hin.1
    have hN : N < rs.length := by omega
    obtain ⟨e0, e1, _⟩ := h.ent hN
    unfold fieldA fieldB
    have c0 : ¬ entE es (N : Int) ≠ 0 := fun q => q e0
    rw [if_neg c0, if_neg c0, e1]
    by_cases hk : (rs.getD N rt0).kind = 5
    · refine .inr (.inr ⟨N, rfl, hN, hk, ?_⟩)
      have ck : ¬ (rs.getD N rt0).kind ≠ 5 := fun q => q hk
      rw [if_neg ck, if_neg ck]
      have h3 : ¬ N < 3 := fun q => by have := (h.first_kind q).1; omega
      have e : ((N : Int) - 3).toNat = N - 3 := by omega
      rw [e]
      unfold dF
      rw [if_neg h3]
      exact ⟨rfl, rfl⟩
    · refine .inr (.inl ⟨N, rfl, hN, hk, ?_⟩)
      rw [if_pos hk, if_pos hk]
      exact ⟨rfl, rfl⟩
  · have e0 : entE es m = 4 := by unfold entE; rw [if_pos (by omega)]
    refine .inl ⟨hin, ?_⟩
    unfold fieldA fieldB
    rw [if_pos (by rw [e0]; decide), if_pos (by rw [e0]; decide)]
    exact ⟨rfl, e0⟩
/-- What is sought, and the field found, after i fields. -/
def wI (K i : Nat) : Int := if K < i then 0 else 4
def yI (fs : List Fld) (K i : Nat) : Fld := if K < i then fs.getD K fld0 else fld0
theorem wI_next {K i : Nat} (h : i ≠ K) : wI K (i + 1) = wI K i := by
  unfold wI
  by_cases q : K < i
  · rw [if_pos q, if_pos (by omega)]
  · rw [if_neg q, if_neg (by omega)]
theorem yI_next (fs : List Fld) {K i : Nat} (h : i ≠ K) : yI fs K (i + 1) = yI fs K i := by
  unfold yI
  by_cases q : K < i
  · rw [if_pos q, if_pos (by omega)]
  · rw [if_neg q, if_neg (by omega)]
theorem wI_hit (K : Nat) : wI K (K + 1) = 0 := by unfold wI; rw [if_pos (Nat.lt_succ_self _)]
theorem yI_hit (fs : List Fld) (K : Nat) : yI fs K (K + 1) = fs.getD K fld0 := by unfold yI; rw [if_pos (Nat.lt_succ_self _)]
/-- The box of the field sought. -/
structure YW (W0 wl : World) (b : Nat) (y : Fld) : Prop where
  fr : Fr (fun j => j = b) W0 wl
  c : ∀ j, j < 3 → wl.cell? ⟨b, j, none⟩ = y.vals[j]?
  fz : ∀ j, j < 3 → wl.frozen? ⟨b, j, none⟩ = false
theorem YW.start (w3 : World) (A : Array Value) (t : TypeId) : YW ((w3.alloc (.cells A t)).alloc (.cells #[.string ⟨#[]⟩, .int .i64 0, .int .i64 0] t)) ((w3.alloc (.cells A t)).alloc (.cells #[.string ⟨#[]⟩, .int .i64 0, .int .i64 0] t)) (w3.heap.size + 1) fld0 := by
  refine ⟨Fr.refl _ _, fun j hj => ?_, fun j hj => ?_⟩
  · obtain ⟨x, hx⟩ : ∃ x, (#[Value.string ⟨#[]⟩, .int .i64 0, .int .i64 0] : Array Value)[j]? = some x := ⟨_, Array.getElem?_eq_getElem (by simpa using hj)⟩
    rw [(two_box (Fr.refl _ _)).2 j x hx]
    match j, hj with
    | 0, _ => exact hx.symm
    | 1, _ => exact hx.symm
    | 2, _ => exact hx.symm
  · simp
theorem YW.put {W0 wl : World} {b : Nat} {y : Fld} (h : YW W0 wl b y) (f : Fld) : YW W0 (((wl.setCell ⟨b, 0, none⟩ (.string f.name)).setCell ⟨b, 1, none⟩ (.int .i64 f.type)).setCell ⟨b, 2, none⟩ (.int .i64 f.off)) b f := by
  obtain ⟨v0, v1, v2⟩ := And.intro (h.c 0 (by decide)) (And.intro (h.c 1 (by decide)) (h.c 2 (by decide)))
  have hs := set3' (v0.trans rfl) (v1.trans rfl) (v2.trans rfl) (.string f.name) (.int .i64 f.type) (.int .i64 f.off)
  have hq : (fun j => j = b) b := rfl
  have hf : Fr (fun j => j = b) wl (((wl.setCell ⟨b, 0, none⟩ (.string f.name)).setCell ⟨b, 1, none⟩ (.int .i64 f.type)).setCell ⟨b, 2, none⟩ (.int .i64 f.off)) := fr_setF (fr_setF (fr_setF (Fr.refl (fun j => j = b) wl) hq _ _) hq _ _) hq _ _
  refine ⟨h.fr.trans hf, fun j hj => ?_, fun j hj => ?_⟩
  · match j, hj with
    | 0, _ => simp only [set3' v0 v1 v2]; rfl
    | 1, _ => simp only [set3' v0 v1 v2]; rfl
    | 2, _ => simp only [set3' v0 v1 v2]; rfl
  · rw [World.frozen?_setCell, World.frozen?_setCell, World.frozen?_setCell]
    exact h.fz j hj
end Go.Proofs.Ytlhkhgkgjdfcgaa
