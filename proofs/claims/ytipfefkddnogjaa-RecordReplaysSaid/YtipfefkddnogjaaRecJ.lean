/-
  The contracts of the document's own ahead and First, and of the law's Ref (layer 4).
-/
import Derived.Test.YtipfefkddnogjaaRecI
namespace Go.Proofs.Ytipfefkddnogjaa
open Go.RowKit Go.Maps
set_option linter.unusedVariables false
set_option linter.unusedSimpArgs false

theorem info63 : (Try.prog.info? 63).map (fun i => (i.zero, i.size, i.bytes)) = some (some (.agg #[.int .u32 0, .int .u32 0]), 2, 8) := by kernel_rfl
/-- The place of the first record ahead of number i with its number; -1 where there is none. -/
def ahd (l : List Rc) (i : Nat) : Int := match (List.range i).find? (fun k => (l.getD k (0, 0)).1 == (l.getD i (0, 0)).1) with | some k => k | none => -1
theorem ahd_found {l : List Rc} {i k : Nat} (hk : k < i) (h0 : ∀ j, j < k → ((l.getD j (0, 0)).1 == (l.getD i (0, 0)).1) = false) (h1 : ((l.getD k (0, 0)).1 == (l.getD i (0, 0)).1) = true) : ahd l i = k := by
  unfold ahd
  have e : (List.range i).find? (fun k => (l.getD k (0, 0)).1 == (l.getD i (0, 0)).1) = some k := by
    rw [List.find?_eq_some_iff_getElem]
    refine ⟨h1, k, by simpa using hk, by simp, fun j hj => ?_⟩
    simp only [List.getElem_range]
    rw [h0 j hj]; rfl
  rw [e]
theorem ahd_none {l : List Rc} {i : Nat} (h0 : ∀ j, j < i → ((l.getD j (0, 0)).1 == (l.getD i (0, 0)).1) = false) : ahd l i = -1 := by
  unfold ahd
  have e : (List.range i).find? (fun k => (l.getD k (0, 0)).1 == (l.getD i (0, 0)).1) = none := by
    rw [List.find?_eq_none]
    intro x hx
    rw [h0 x (by simpa using hx)]; simp
  rw [e]
set_option maxHeartbeats 4000000 in
theorem c63 (a : Option Addr) (c : Nat) (l : List Rc) (hl : l.length < 1000000) (i : Nat) (hi : i < l.length) (w : World) (hat : RecAt w a l) :
    Calls Try.prog 63 #[.slice a l.length c, .int .i64 i] w fun e w' => e = .returned (.int .i64 (ahd l i)) ∧ w.grownBy w' none := by
  obtain ⟨b, o, rfl, y0, y1⟩ := hat i hi
  have HA := Lib.hid hat
  have Y0 := Lib.hid y0
  clear hat y0 y1
  have HB := Lib.hid (by_refl w)
  have H0 : Hid (∀ j : Nat, j < 0 → ((l.getD j (0, 0)).1 == (l.getD i (0, 0)).1) = false) := Lib.hid (fun i hi => absurd hi (by omega))
  go_enter Try.func63, Try.ntmps63
  go_wp2
  go_loopw [5] (fun q wr => ∃ k : Nat, k ≤ i ∧ q = .int .i64 k ∧ Hid (∀ j : Nat, j < k → ((l.getD j (0, 0)).1 == (l.getD i (0, 0)).1) = false) ∧ Hid (w.grownBy wr none)) (fun q _ => i - (intOf q).toNat)
  case atStart => exact ⟨0, by omega, rfl, H0, HB⟩
  case round =>
    obtain ⟨k, hk, rfl, HE, HW⟩ := hrel
    clear H0 HB
    by_cases hlt : k < i
    · obtain ⟨b', o', e, z0, z1⟩ := HA.out k (by omega)
      simp only [Option.some.injEq, Addr.mk.injEq, and_true] at e
      obtain ⟨rfl, rfl⟩ := e
      have z0 := HW.out.cell z0 (by simp)
      have y0 := HW.out.cell Y0.out (by simp)
      clear z1
      have h1 : (k : Int) < i := by omega
      have h2 : (i : Int) < l.length := by omega
      have h3 : (k : Int) < l.length := by omega
      have h4 : (0 : Int) ≤ k := by omega
      have h5 : (0 : Int) ≤ i := by omega
      cases he : ((l.getD k (0, 0)).1 == (l.getD i (0, 0)).1)
      · have HE' : Hid (∀ j : Nat, j < k + 1 → ((l.getD j (0, 0)).1 == (l.getD i (0, 0)).1) = false) := Lib.hid (fun j hj => by
          by_cases h : j = k
          · subst h; exact he
          · exact HE.out j (by omega))
        generalize (l.getD k (0, 0)).1 = x at *
        generalize (l.getD i (0, 0)).1 = y at *
        go_wp2
        go_quiet (fail)
        go_wp2
        go_roundw
        case rel => exact ⟨k + 1, by omega, by go_num, HE', Lib.hid (by_drewN HW.out _)⟩
        case measure => simp [intOf]; omega
      · have HP : Hid (ahd l i = k) := Lib.hid (ahd_found hlt HE.out he)
        generalize (l.getD k (0, 0)).1 = x at *
        generalize (l.getD i (0, 0)).1 = y at *
        go_wp2
        go_quiet (fail)
        go_wp2
        go_ret
        exact ⟨by rw [HP.out]; rfl, by_drewN HW.out _⟩
    · have hk4 : k = i := by omega
      subst hk4
      have HP : Hid (ahd l k = -1) := Lib.hid (ahd_none HE.out)
      go_wp2
      go_ret
      exact ⟨by rw [HP.out]; rfl, HW.out⟩
theorem getD_take {l : List Rc} {k j : Nat} (h : j < k) : (l.take k).getD j (0, 0) = l.getD j (0, 0) := by
  rw [List.getD_eq_getElem?_getD, List.getElem?_take, if_pos h, ← List.getD_eq_getElem?_getD]
theorem hasN_take {l : List Rc} {k : Nat} {s : Int} (hk : k ≤ l.length) : hasN (l.take k) s = true ↔ ∃ j, j < k ∧ (l.getD j (0, 0)).1 = s := by
  unfold hasN
  rw [List.any_eq_true]
  constructor
  · rintro ⟨q, hq, e⟩
    obtain ⟨j, hj, rfl⟩ := List.mem_iff_getElem.1 hq
    rw [List.length_take] at hj
    refine ⟨j, by omega, ?_⟩
    have h1 : j < l.length := by omega
    rw [List.getElem_take] at e
    rw [List.getD_eq_getElem?_getD, List.getElem?_eq_getElem h1]
    simpa using e
  · rintro ⟨j, hj, e⟩
    have h1 : j < l.length := by omega
    refine ⟨l[j], ?_, ?_⟩
    · rw [List.mem_iff_getElem]
      exact ⟨j, by rw [List.length_take]; omega, by rw [List.getElem_take]⟩
    · rw [List.getD_eq_getElem?_getD, List.getElem?_eq_getElem h1] at e
      simpa using e
theorem ahd_neg {l : List Rc} {k : Nat} (hk : k < l.length) (h : hasN (firsts (l.take k)) (l.getD k (0, 0)).1 = false) : ahd l k = -1 := by
  rw [hasN_firsts] at h
  refine ahd_none (fun j hj => ?_)
  cases he : ((l.getD j (0, 0)).1 == (l.getD k (0, 0)).1) with
  | false => rfl
  | true =>
    have := (hasN_take (l := l) (k := k) (s := (l.getD k (0, 0)).1) (by omega)).2 ⟨j, hj, by simpa using he⟩
    rw [h] at this; cases this
theorem ahd_pos {l : List Rc} {k : Nat} (hk : k < l.length) (h : hasN (firsts (l.take k)) (l.getD k (0, 0)).1 = true) :
    ∃ j : Nat, j < k ∧ ahd l k = j ∧ (l.getD j (0, 0)).1 = (l.getD k (0, 0)).1 ∧ ∀ i, i < j → (l.getD i (0, 0)).1 ≠ (l.getD k (0, 0)).1 := by
  rw [hasN_firsts] at h
  obtain ⟨j, hj, e⟩ := (hasN_take (l := l) (k := k) (s := (l.getD k (0, 0)).1) (by omega)).1 h
  unfold ahd
  cases hf : (List.range k).find? (fun j => (l.getD j (0, 0)).1 == (l.getD k (0, 0)).1) with
  | none =>
    rw [List.find?_eq_none] at hf
    exact absurd (by simpa using e) (hf j (by simpa using hj))
  | some x =>
    rw [List.find?_eq_some_iff_getElem] at hf
    obtain ⟨h1, n, hn, rfl, h2⟩ := hf
    simp only [List.getElem_range] at h1 h2 ⊢
    rw [List.length_range] at hn
    exact ⟨n, hn, rfl, by simpa using h1, fun i hi => by have := h2 i hi; simpa using this⟩
end Go.Proofs.Ytipfefkddnogjaa
