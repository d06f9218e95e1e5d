/-
  Memories (layer 11): the pointers that an object keeps; forget at a map.
-/
import Derived.Test.YtonkfgjmienalaaStoK
import Derived.Maps.OwnSet
import Derived.Maps.OwnOps
import Derived.LoopTactic
namespace Go.Proofs.Ytonkfgjmienalaa
open Go.RowKit Go.Maps
set_option linter.unusedVariables false
set_option linter.unusedSimpArgs false
/-- A pointer's four numbers. -/
structure PV where
  ob : Int
  lo : Int
  hi : Int
  off : Int
def pv0 : PV := ⟨0, 0, 0, 0⟩
def PV.d (p : PV) : DataW Unit := .agg [.lit (.int .i64 p.ob), .lit (.int .i64 p.lo), .lit (.int .i64 p.hi), .lit (.int .i64 p.off)]
def ptrElem (v : Value) : Option (DataW Unit × List MemPlace) :=
  match v with
  | .agg cs => match cs.toList with
    | [.int .i64 a, .int .i64 b, .int .i64 c, .int .i64 d] => some (PV.d ⟨a, b, c, d⟩, [])
    | _ => none
  | _ => none
theorem ptrElem_mk (a b c d : Int) : ptrElem (.agg #[.int .i64 a, .int .i64 b, .int .i64 c, .int .i64 d]) = some (PV.d ⟨a, b, c, d⟩, []) := rfl
theorem PV.d_inj {a b : PV} (h : a.d = b.d) : a = b := by
  unfold PV.d at h
  injection h with h
  simp at h
  obtain ⟨h1, h2, h3, h4⟩ := h
  cases a; cases b
  simp_all
theorem ptrElem_inv {v : Value} {p : PV} {ps : List MemPlace} (h : ptrElem v = some (p.d, ps)) : v = .agg #[.int .i64 p.ob, .int .i64 p.lo, .int .i64 p.hi, .int .i64 p.off] := by
  unfold ptrElem at h
  split at h
  · rename_i cs
    split at h
    · rename_i a b c d e
      injection h with h
      injection h with h _
      have := PV.d_inj h
      subst this
      rw [← Array.toArray_toList (xs := cs), e]
    · cases h
  · cases h
theorem lawI : Keyed Try.prog 3 := int_keyed Try.underlying3
theorem zeroPtr (w : World) : (zeroValue 24).run Try.prog w = .ok (.agg #[.int .i64 0, .int .i64 0, .int .i64 0, .int .i64 0]) w := by kernel_rfl
theorem keyI {k : Int} (h : -1000000 ≤ k ∧ k ≤ 2000000) : keyOf Try.prog 3 (.int .i64 k) = some (.int .i64 k) := keyOf_int_mk Try.underlying3 (WalkArith.wf_i64 (by omega))
abbrev Owns (w : World) (b : Nat) (n : Nat) (D : DataW Unit) : Prop := w.ownsMap Try.prog 3 ptrElem b n D
/-- What the map holds is f, or no pointer. -/
def Reads (D : DataW Unit) (f : Int → PV) : Prop := ∀ k, D.atKey (.int .i64 k) pv0.d = (f k).d
def PtsAt (w : World) (mp : Value) (f : Int → PV) : Prop := (mp = .map none ∧ ∀ k, f k = pv0) ∨ ∃ b n D, mp = .map (some b) ∧ n ≤ 1000 ∧ Owns w b n D ∧ Reads D f
/-- Behind forget: of four bytes from k on. -/
def forgF (f : Int → PV) (k : Int) : Int → PV := fun j => if k - 3 ≤ j ∧ j < k + 4 then pv0 else f j
theorem size_zero {w : World} {b n : Nat} {D : DataW Unit} (h : Owns w b n D) (hs : Maps.size D = 0) (k : Lit) (z : DataW Unit) : D.atKey k z = z := by
  obtain ⟨es, rfl⟩ := h.isMap
  rw [Maps.size_eq] at hs
  obtain rfl := List.eq_nil_of_length_eq_zero hs
  rfl
theorem Fr.ownsM {F : Nat → Prop} {w w' : World} {b n : Nat} {D : DataW Unit} (h : Owns w b n D) (hf : Fr F w w') (hn : ¬ F b) : Owns w' b n D := by
  have hlt := h.lt
  obtain ⟨es, clock, hb, R, hs, hD⟩ := h
  exact ⟨es, clock, (hf.block b hlt hn).trans hb, R, hs, hD⟩
/-- Some keys have been forgotten. -/
def ForgR (w : World) (b n : Nat) (D : DataW Unit) (k i : Int) (wl : World) : Prop := ∃ D', Owns wl b n D' ∧ (∀ j, k - 3 ≤ j ∧ j < i → D'.atKey (.int .i64 j) pv0.d = pv0.d) ∧ (∀ j, ¬ (k - 3 ≤ j ∧ j < i) → D'.atKey (.int .i64 j) pv0.d = D.atKey (.int .i64 j) pv0.d) ∧ Fr (fun j => j = b) w wl
theorem ForgR.del {w wl w' : World} {b n : Nat} {D D' : DataW Unit} {k i : Int} (h1 : ∀ j, k - 3 ≤ j ∧ j < i → D'.atKey (.int .i64 j) pv0.d = pv0.d) (h2 : ∀ j, ¬ (k - 3 ≤ j ∧ j < i) → D'.atKey (.int .i64 j) pv0.d = D.atKey (.int .i64 j) pv0.d) (hf : Fr (fun j => j = b) w wl) (hi : k - 3 ≤ i)
    (ho : Owns w' b n (D'.del (.int .i64 i))) (ht : wl.mapTurned w' b) : ForgR w b n D k (i + 1) w' := by
  refine ⟨_, ho, fun j hj => ?_, fun j hj => ?_, hf.trans ((Fr.of_by ht.grown).mono (fun j _ e => by injection e with e; exact e.symm))⟩
  · by_cases e : j = i
    · subst e; exact Maps.atKey_del_same _
    · rw [Maps.atKey_del_other (by intro e'; injection e' with _ e'; exact e e')]; exact h1 j (by omega)
  · have e : j ≠ i := by omega
    rw [Maps.atKey_del_other (by intro e'; injection e' with _ e'; exact e e')]; exact h2 j (by omega)
set_option maxRecDepth 100000 in
set_option maxHeartbeats 4000000 in
theorem forget_map {w : World} {sb ob b n : Nat} {sz : Int} {ch : Value} {dead : Bool} {D : DataW Unit} (h : SAt w sb ob sz ch (.map (some b)) dead) (hown : Owns w b n D) (hb : b ≠ ob) (k : Int) (hk : 0 ≤ k ∧ k ≤ 1000000) :
    Calls Try.prog 13 #[.pointer (some ⟨ob, 0, none⟩), .int .i64 k, .int .i64 4] w fun r w' => r = .returned (.tuple #[]) ∧ Hid (ForgR w b n D k (k + 4) w') := by
  have o2 := Lib.hid h.o2
  have H0 : Hid (ForgR w b n D k (k - 3) w) := Lib.hid ⟨D, hown, fun j hj => by omega, fun j _ => rfl, Fr.refl _ _⟩
  clear h hown
  go_enter Try.func13, Try.ntmps13
  go_wp2
  go_loopw [6] (fun q wl => ∃ i : Int, q = .int .i64 i ∧ k - 3 ≤ i ∧ i ≤ k + 4 ∧ Hid (ForgR w b n D k i wl)) (fun q _ => (k + 4 - intOf q).toNat)
  case atStart => exact ⟨k - 3, by go_num, by omega, by omega, H0⟩
  case round =>
    obtain ⟨i, rfl, hi0, hi1, HW⟩ := hrel
    obtain ⟨D', ho, h1, h2, hf⟩ := HW.out
    have q2 := hf.cell o2.out (fun e => hb e.symm)
    have hlen := ho.len Try.underlying44 3
    have HO := Lib.hid ho
    have H1 := Lib.hid h1
    have H2 := Lib.hid h2
    have HF := Lib.hid hf
    by_cases hz : Maps.size D' = 0
    · have HE : Hid (ForgR w b n D k (k + 4) wr) := Lib.hid ⟨D', ho, fun j hj => size_zero ho hz _ _, fun j hj => by
        by_cases e : k - 3 ≤ j ∧ j < i
        · omega
        · exact h2 j e, hf⟩
      rw [hz] at hlen
      clear ho h1 h2 hf hz H0
      by_cases hlt : i < k + 4
      all_goals
        go_wp2
        go_end0
        exact ⟨rfl, HE⟩
    · have hs : decide (0 < Maps.size D') = true := decide_eq_true (by omega)
      have hs' : (0 : Int) < (Maps.size D' : Nat) := by omega
      clear ho h1 h2 hf H0
      by_cases hlt : i < k + 4
      · go_wp2_with (at_delete; refine wpList_delete_own _ rfl _ _ 44 3 rfl 24 lawI Try.underlying44 ptrElem b n D' rfl HO.out (.int .i64 i) (.int .i64 i) rfl (keyI (by omega)) ?_; intro w1 hown1 hturn1; have HX := Lib.hid (ForgR.del H1.out H2.out HF.out hi0 hown1 hturn1); clear hown1 hturn1)
        go_roundw
        case rel => exact ⟨i + 1, by go_num, by omega, by omega, HX⟩
        case measure => simp [intOf]; omega
      · obtain rfl : i = k + 4 := by omega
        go_wp2
        go_end0
        exact ⟨rfl, HW⟩
end Go.Proofs.Ytonkfgjmienalaa
