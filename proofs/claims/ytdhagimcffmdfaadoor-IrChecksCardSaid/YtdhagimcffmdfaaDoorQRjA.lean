/-
  Modules (layer 13): the document's own tests of variables, registers and ends.
-/
import Derived.Test.YtdhagimcffmdfaaDoorQChkF
namespace Go.Proofs.YtdhagimcffmdfaaDoor
open Go.RowKit
set_option linter.unusedVariables false
set_option linter.unusedSimpArgs false
set_option maxRecDepth 100000 in
set_option maxHeartbeats 4000000 in
theorem rreg_dec (nm vd pr ob bl : Value) (R r : Int) (hR : 0 ≤ R ∧ R ≤ 8000) (u b : Bool) (h : b = true ↔ (if u = true then RgP R r else r = -1)) (w : World) : Calls Tryd.prog 53 #[.agg #[nm, vd, pr, .int .i64 R, ob, bl], .int .i64 r, .bool u] w fun e w' => e = .returned (.bool b) ∧ Fr (fun _ => False) w w' := by
  have F0 : Hid (Fr (fun _ => False) w (w.alloc (.cells #[nm, vd, pr, .int .i64 R, ob, bl] 50))) := Lib.hid (fr_al (Fr.refl _ _) _)
  cases u
  · have HB : Hid (b = (r == -1)) := Lib.hid (bool_of (P := r = -1) (by simpa using h) (by simp))
    clear h
    go_enter Tryd.func53, Tryd.ntmps53
    go_wp2
    go_ret
    exact ⟨by rw [HB.out]; rfl, F0.out⟩
  · have h' : b = true ↔ RgP R r := by simpa using h
    by_cases h0 : 0 ≤ r
    · have HB : Hid (b = decide (r ≤ R - 1)) := Lib.hid (bool_of (P := RgP R r) h' (by unfold RgP; simp; omega))
      clear h h'
      go_enter Tryd.func53, Tryd.ntmps53
      go_wp2
      go_ret
      exact ⟨by rw [HB.out]; rfl, F0.out⟩
    · have HB : Hid (b = false) := Lib.hid (bool_of (P := RgP R r) h' (by unfold RgP; simp; omega))
      clear h h'
      go_enter Tryd.func53, Tryd.ntmps53
      go_wp2
      go_ret
      exact ⟨by rw [HB.out]; rfl, F0.out⟩
set_option maxRecDepth 100000 in
set_option maxHeartbeats 4000000 in
theorem rslts (l : List Slt) (a : Option Addr) (n c : Nat) (most : Nat) (hn : n = l.length) (hb : n ≤ 9223372036854775807) (hmost : n ≤ most) (hm2 : most ≤ 1000) (w : World) (h : SltL w a l) : Calls Tryd.prog 25 #[.slice a n c, .int .i64 most] w fun e w' => IsR (SltsP l) e ∧ w = w' := by
  have HN := Lib.hid hn
  have HI := Lib.hid h
  clear hn h
  go_enter Tryd.func25, Tryd.ntmps25
  go_wp2
  go_loopw [5] (fun q wr => ∃ k : Nat, q = .int .i64 k ∧ k ≤ n ∧ wr = w ∧ Hid (∀ j, j < k → SltP (l.getD j slt0))) (fun q _ => n - (intOf q).toNat)
  case atStart => exact ⟨0, rfl, Nat.zero_le _, rfl, Lib.hid (fun j hj => absurd hj (by omega))⟩
  case round =>
    obtain ⟨k, rfl, hk, rfl, HK⟩ := hrel
    by_cases hlt : k < n
    · obtain ⟨g, o, rfl, c0, c1, c2, c3⟩ := HI.out k (by rw [← HN.out]; exact hlt)
      obtain ⟨x, hx⟩ : ∃ x, l.getD k slt0 = x := ⟨_, rfl⟩
      rw [hx] at c0 c1 c2 c3
      have HX := Lib.hid hx
      clear hx
      obtain ⟨nm, sz, al, ce⟩ := x
      simp only at c0 c1 c2 c3
      have no : ¬SltP ⟨nm, sz, al, ce⟩ → ¬SltsP l := fun e hh => e (by have := hh k (by rw [← HN.out]; exact hlt); rw [HX.out] at this; exact this)
      have HNO := Lib.hid no
      clear no
      by_cases e1 : sz < 1
      · have HE : Hid (¬SltP ⟨nm, sz, al, ce⟩) := Lib.hid (fun q => by have := q.1; simp only at this; omega)
        go_wp2
        go_ret
        exact ⟨⟨_, rfl, iff_of_false Bool.false_ne_true (HNO.out HE.out)⟩, rfl⟩
      by_cases e2 : 32768 < sz
      · have HE : Hid (¬SltP ⟨nm, sz, al, ce⟩) := Lib.hid (fun q => by have := q.2.1; simp only at this; omega)
        go_wp2
        go_ret
        exact ⟨⟨_, rfl, iff_of_false Bool.false_ne_true (HNO.out HE.out)⟩, rfl⟩
      by_cases a1 : al = 1
      · have HK2 : Hid (∀ j, j < k + 1 → SltP (l.getD j slt0)) := Lib.hid (fun j hj => by
          by_cases hjk : j < k
          · exact HK.out j hjk
          · obtain rfl : j = k := by omega
            rw [HX.out]; exact ⟨by simp only; omega, by simp only; omega, .inl a1⟩)
        subst a1
        go_wp2
        go_roundw
        case rel => exact ⟨k + 1, by go_num, by omega, trivial, HK2⟩
        case measure => simp [intOf]; omega
      have n1 : (al != 1) = true := by simpa using a1
      by_cases a4 : al = 4
      · have HK2 : Hid (∀ j, j < k + 1 → SltP (l.getD j slt0)) := Lib.hid (fun j hj => by
          by_cases hjk : j < k
          · exact HK.out j hjk
          · obtain rfl : j = k := by omega
            rw [HX.out]; exact ⟨by simp only; omega, by simp only; omega, .inr a4⟩)
        subst a4
        clear a1 n1
        go_wp2
        go_roundw
        case rel => exact ⟨k + 1, by go_num, by omega, trivial, HK2⟩
        case measure => simp [intOf]; omega
      have n4 : (al != 4) = true := by simpa using a4
      have HE : Hid (¬SltP ⟨nm, sz, al, ce⟩) := Lib.hid (fun q => by rcases q.2.2 with q | q; exact a1 q; exact a4 q)
      clear a1 a4
      go_wp2
      go_ret
      exact ⟨⟨_, rfl, iff_of_false Bool.false_ne_true (HNO.out HE.out)⟩, rfl⟩
    · obtain rfl : k = n := by omega
      go_wp2
      go_ret
      exact ⟨⟨_, rfl, iff_of_true (by first | rfl | (simp; omega) | simp) (by unfold SltsP; rw [← HN.out]; exact HK.out)⟩, rfl⟩
set_option maxRecDepth 100000 in
set_option maxHeartbeats 4000000 in
theorem rend_1 (nm : ByteArray) (vd : Bool) (pr R : Int) (hR : 0 ≤ R ∧ R ≤ 8000) (oa ab : Option Addr) (nO nB oc bc : Nat) (hB : nB ≤ 40) (ins : Value) (a t el : Int) (w : World) : Calls Tryd.prog 31 #[.agg #[.string nm, .bool vd, .int .i64 pr, .int .i64 R, .slice oa nO oc, .slice ab nB bc], .agg #[ins, .int .i64 1, .int .i64 a, .int .i64 t, .int .i64 el]] w fun e w' => IsR (EndQ vd R nB 1 a t el) e ∧ Fr (fun _ => False) w w' := by
  have F0 : Hid (Fr (fun _ => False) w ((w.alloc (.cells #[.string nm, .bool vd, .int .i64 pr, .int .i64 R, .slice oa nO oc, .slice ab nB bc] 50)).alloc (.cells #[ins, .int .i64 1, .int .i64 a, .int .i64 t, .int .i64 el] 41))) := Lib.hid (fr_al (fr_al (Fr.refl _ _) _) _)
  obtain ⟨bA, hA⟩ := bool_ex (if false = true then RgP R a else a = -1)
  have KA := Lib.hid (fun W => rreg_dec (.string nm) (.bool vd) (.int .i64 pr) (.slice oa nO oc) (.slice ab nB bc) R a hR false bA hA W)
  have HA : Hid (bA = true ↔ a = -1) := Lib.hid (by simpa using hA)
  have eA : (a == -1) = bA := bool_of (P := a = -1) (by simp) HA.out
  clear hA
  by_cases t0 : 0 ≤ t
  case neg =>
    have HN : Hid (¬EndQ vd R nB 1 a t el) := Lib.hid (fun z => t0 ((endQ_1 vd R nB a t el).1 z).2.1.1)
    go_enter Tryd.func31, Tryd.ntmps31
    go_wp2_with (go_at_call 53; (with_reducible refine (KA.out _).mono ?_); rintro e w2 ⟨rfl, hf⟩; have HF := Lib.hid hf; clear hf)
    go_ret
    exact ⟨⟨_, rfl, iff_of_false Bool.false_ne_true HN.out⟩, F0.out⟩
  by_cases t1 : t < nB
  case neg =>
    have HN : Hid (¬EndQ vd R nB 1 a t el) := Lib.hid (fun z => t1 ((endQ_1 vd R nB a t el).1 z).2.1.2)
    go_enter Tryd.func31, Tryd.ntmps31
    go_wp2_with (go_at_call 53; (with_reducible refine (KA.out _).mono ?_); rintro e w2 ⟨rfl, hf⟩; have HF := Lib.hid hf; clear hf)
    go_ret
    exact ⟨⟨_, rfl, iff_of_false Bool.false_ne_true HN.out⟩, F0.out⟩
  cases bA
  case false =>
    have HN : Hid (¬EndQ vd R nB 1 a t el) := Lib.hid (fun z => Bool.false_ne_true (HA.out.2 ((endQ_1 vd R nB a t el).1 z).1))
    go_enter Tryd.func31, Tryd.ntmps31
    go_wp2_with (go_at_call 53; (with_reducible refine (KA.out _).mono ?_); rintro e w2 ⟨rfl, hf⟩; have HF := Lib.hid hf; clear hf)
    go_ret
    exact ⟨⟨_, rfl, iff_of_false Bool.false_ne_true HN.out⟩, F0.out⟩
  obtain ⟨bE, eE⟩ : ∃ b : Bool, (el == 0) = b := ⟨_, rfl⟩
  have HQ : Hid (bE = true ↔ EndQ vd R nB 1 a t el) := Lib.hid (by rw [endQ_1 vd R nB a t el, ← eE, beq_iff_eq]; exact ⟨fun z => ⟨HA.out.1 rfl, ⟨t0, t1⟩, z⟩, fun z => z.2.2⟩)
  go_enter Tryd.func31, Tryd.ntmps31
  go_wp2_with (go_at_call 53; (with_reducible refine (KA.out _).mono ?_); rintro e w2 ⟨rfl, hf⟩; have HF := Lib.hid hf; clear hf)
  go_ret
  exact ⟨⟨_, rfl, HQ.out⟩, F0.out⟩
set_option maxRecDepth 100000 in
set_option maxHeartbeats 4000000 in
theorem rend_2 (nm : ByteArray) (vd : Bool) (pr R : Int) (hR : 0 ≤ R ∧ R ≤ 8000) (oa ab : Option Addr) (nO nB oc bc : Nat) (hB : nB ≤ 40) (ins : Value) (a t el : Int) (w : World) : Calls Tryd.prog 31 #[.agg #[.string nm, .bool vd, .int .i64 pr, .int .i64 R, .slice oa nO oc, .slice ab nB bc], .agg #[ins, .int .i64 2, .int .i64 a, .int .i64 t, .int .i64 el]] w fun e w' => IsR (EndQ vd R nB 2 a t el) e ∧ Fr (fun _ => False) w w' := by
  have F0 : Hid (Fr (fun _ => False) w ((w.alloc (.cells #[.string nm, .bool vd, .int .i64 pr, .int .i64 R, .slice oa nO oc, .slice ab nB bc] 50)).alloc (.cells #[ins, .int .i64 2, .int .i64 a, .int .i64 t, .int .i64 el] 41))) := Lib.hid (fr_al (fr_al (Fr.refl _ _) _) _)
  obtain ⟨bA, hA⟩ := bool_ex (if true = true then RgP R a else a = -1)
  have KA := Lib.hid (fun W => rreg_dec (.string nm) (.bool vd) (.int .i64 pr) (.slice oa nO oc) (.slice ab nB bc) R a hR true bA hA W)
  have HA : Hid (bA = true ↔ RgP R a) := Lib.hid (by simpa using hA)
  clear hA
  by_cases t0 : 0 ≤ t
  case neg =>
    have HN : Hid (¬EndQ vd R nB 2 a t el) := Lib.hid (fun z' => t0 (by have z := (endQ_2 vd R nB a t el).1 z'; exact z.2.1.1))
    go_enter Tryd.func31, Tryd.ntmps31
    go_wp2_with (go_at_call 53; (with_reducible refine (KA.out _).mono ?_); rintro e w2 ⟨rfl, hf⟩; have HF := Lib.hid hf; clear hf)
    go_ret
    exact ⟨⟨_, rfl, iff_of_false Bool.false_ne_true HN.out⟩, F0.out⟩
  by_cases t1 : t < nB
  case neg =>
    have HN : Hid (¬EndQ vd R nB 2 a t el) := Lib.hid (fun z' => t1 (by have z := (endQ_2 vd R nB a t el).1 z'; exact z.2.1.2))
    go_enter Tryd.func31, Tryd.ntmps31
    go_wp2_with (go_at_call 53; (with_reducible refine (KA.out _).mono ?_); rintro e w2 ⟨rfl, hf⟩; have HF := Lib.hid hf; clear hf)
    go_ret
    exact ⟨⟨_, rfl, iff_of_false Bool.false_ne_true HN.out⟩, F0.out⟩
  by_cases s0 : 0 ≤ el
  case neg =>
    have HN : Hid (¬EndQ vd R nB 2 a t el) := Lib.hid (fun z' => s0 (by have z := (endQ_2 vd R nB a t el).1 z'; exact z.2.2.1))
    go_enter Tryd.func31, Tryd.ntmps31
    go_wp2_with (go_at_call 53; (with_reducible refine (KA.out _).mono ?_); rintro e w2 ⟨rfl, hf⟩; have HF := Lib.hid hf; clear hf)
    go_ret
    exact ⟨⟨_, rfl, iff_of_false Bool.false_ne_true HN.out⟩, F0.out⟩
  by_cases s1 : el < nB
  case neg =>
    have HN : Hid (¬EndQ vd R nB 2 a t el) := Lib.hid (fun z' => s1 (by have z := (endQ_2 vd R nB a t el).1 z'; exact z.2.2.2))
    go_enter Tryd.func31, Tryd.ntmps31
    go_wp2_with (go_at_call 53; (with_reducible refine (KA.out _).mono ?_); rintro e w2 ⟨rfl, hf⟩; have HF := Lib.hid hf; clear hf)
    go_ret
    exact ⟨⟨_, rfl, iff_of_false Bool.false_ne_true HN.out⟩, F0.out⟩
  have HQ : Hid (bA = true ↔ EndQ vd R nB 2 a t el) := Lib.hid (by rw [endQ_2 vd R nB a t el]; exact ⟨fun z => ⟨HA.out.1 z, ⟨t0, t1⟩, ⟨s0, s1⟩⟩, fun z => HA.out.2 z.1⟩)
  go_enter Tryd.func31, Tryd.ntmps31
  go_wp2_with (go_at_call 53; (with_reducible refine (KA.out _).mono ?_); rintro e w2 ⟨rfl, hf⟩; have HF := Lib.hid hf; clear hf)
  go_ret
  exact ⟨⟨_, rfl, HQ.out⟩, F0.out.trans HF.out⟩
set_option maxRecDepth 100000 in
set_option maxHeartbeats 4000000 in
theorem rend_3v (nm : ByteArray) (pr R : Int) (hR : 0 ≤ R ∧ R ≤ 8000) (oa ab : Option Addr) (nO nB oc bc : Nat) (hB : nB ≤ 40) (ins : Value) (a t el : Int) (w : World) : Calls Tryd.prog 31 #[.agg #[.string nm, .bool true, .int .i64 pr, .int .i64 R, .slice oa nO oc, .slice ab nB bc], .agg #[ins, .int .i64 3, .int .i64 a, .int .i64 t, .int .i64 el]] w fun e w' => IsR (EndQ true R nB 3 a t el) e ∧ Fr (fun _ => False) w w' := by
  have F0 : Hid (Fr (fun _ => False) w ((w.alloc (.cells #[.string nm, .bool true, .int .i64 pr, .int .i64 R, .slice oa nO oc, .slice ab nB bc] 50)).alloc (.cells #[ins, .int .i64 3, .int .i64 a, .int .i64 t, .int .i64 el] 41))) := Lib.hid (fr_al (fr_al (Fr.refl _ _) _) _)
  obtain ⟨bA, hA⟩ := bool_ex (if false = true then RgP R a else a = -1)
  have KA := Lib.hid (fun W => rreg_dec (.string nm) (.bool true) (.int .i64 pr) (.slice oa nO oc) (.slice ab nB bc) R a hR false bA hA W)
  have HA : Hid (bA = true ↔ a = -1) := Lib.hid (by simpa using hA)
  clear hA
  by_cases t0 : t = 0
  case neg =>
    have e0 : (t == 0) = false := by simpa using t0
    have HN : Hid (¬EndQ true R nB 3 a t el) := Lib.hid (fun z => t0 ((endQ_3v R nB a t el).1 z).2.1)
    clear t0
    by_cases t1 : 0 ≤ t
    case pos =>
      go_enter Tryd.func31, Tryd.ntmps31
      go_wp2_with (go_at_call 53; (with_reducible refine (KA.out _).mono ?_); rintro e w2 ⟨rfl, hf⟩; have HF := Lib.hid hf; clear hf)
      go_ret
      exact ⟨⟨_, rfl, iff_of_false Bool.false_ne_true HN.out⟩, F0.out⟩
    case neg =>
      go_enter Tryd.func31, Tryd.ntmps31
      go_wp2_with (go_at_call 53; (with_reducible refine (KA.out _).mono ?_); rintro e w2 ⟨rfl, hf⟩; have HF := Lib.hid hf; clear hf)
      go_ret
      exact ⟨⟨_, rfl, iff_of_false Bool.false_ne_true HN.out⟩, F0.out⟩
  subst t0
  by_cases s0 : el = 0
  case neg =>
    have e1 : (el == 0) = false := by simpa using s0
    have HN : Hid (¬EndQ true R nB 3 a 0 el) := Lib.hid (fun z => s0 ((endQ_3v R nB a 0 el).1 z).2.2)
    clear s0
    go_enter Tryd.func31, Tryd.ntmps31
    go_wp2_with (go_at_call 53; (with_reducible refine (KA.out _).mono ?_); rintro e w2 ⟨rfl, hf⟩; have HF := Lib.hid hf; clear hf)
    go_ret
    exact ⟨⟨_, rfl, iff_of_false Bool.false_ne_true HN.out⟩, F0.out⟩
  have HQ : Hid (bA = true ↔ EndQ true R nB 3 a 0 el) := Lib.hid (by rw [endQ_3v R nB a 0 el]; exact ⟨fun z => ⟨HA.out.1 z, rfl, s0⟩, fun z => HA.out.2 z.1⟩)
  subst s0
  go_enter Tryd.func31, Tryd.ntmps31
  go_wp2_with (go_at_call 53; (with_reducible refine (KA.out _).mono ?_); rintro e w2 ⟨rfl, hf⟩; have HF := Lib.hid hf; clear hf)
  go_ret
  exact ⟨⟨_, rfl, HQ.out⟩, F0.out.trans HF.out⟩
set_option maxRecDepth 100000 in
set_option maxHeartbeats 4000000 in
theorem rend_3n (nm : ByteArray) (pr R : Int) (hR : 0 ≤ R ∧ R ≤ 8000) (oa ab : Option Addr) (nO nB oc bc : Nat) (hB : nB ≤ 40) (ins : Value) (a t el : Int) (w : World) : Calls Tryd.prog 31 #[.agg #[.string nm, .bool false, .int .i64 pr, .int .i64 R, .slice oa nO oc, .slice ab nB bc], .agg #[ins, .int .i64 3, .int .i64 a, .int .i64 t, .int .i64 el]] w fun e w' => IsR (EndQ false R nB 3 a t el) e ∧ Fr (fun _ => False) w w' := by
  have F0 : Hid (Fr (fun _ => False) w ((w.alloc (.cells #[.string nm, .bool false, .int .i64 pr, .int .i64 R, .slice oa nO oc, .slice ab nB bc] 50)).alloc (.cells #[ins, .int .i64 3, .int .i64 a, .int .i64 t, .int .i64 el] 41))) := Lib.hid (fr_al (fr_al (Fr.refl _ _) _) _)
  obtain ⟨bA, hA⟩ := bool_ex (if true = true then RgP R a else a = -1)
  have KA := Lib.hid (fun W => rreg_dec (.string nm) (.bool false) (.int .i64 pr) (.slice oa nO oc) (.slice ab nB bc) R a hR true bA hA W)
  have HA : Hid (bA = true ↔ RgP R a) := Lib.hid (by simpa using hA)
  clear hA
  by_cases t0 : t = 0
  case neg =>
    have e0 : (t == 0) = false := by simpa using t0
    have HN : Hid (¬EndQ false R nB 3 a t el) := Lib.hid (fun z => t0 ((endQ_3n R nB a t el).1 z).2.1)
    clear t0
    by_cases t1 : 0 ≤ t
    case pos =>
      go_enter Tryd.func31, Tryd.ntmps31
      go_wp2_with (go_at_call 53; (with_reducible refine (KA.out _).mono ?_); rintro e w2 ⟨rfl, hf⟩; have HF := Lib.hid hf; clear hf)
      go_ret
      exact ⟨⟨_, rfl, iff_of_false Bool.false_ne_true HN.out⟩, F0.out⟩
    case neg =>
      go_enter Tryd.func31, Tryd.ntmps31
      go_wp2_with (go_at_call 53; (with_reducible refine (KA.out _).mono ?_); rintro e w2 ⟨rfl, hf⟩; have HF := Lib.hid hf; clear hf)
      go_ret
      exact ⟨⟨_, rfl, iff_of_false Bool.false_ne_true HN.out⟩, F0.out⟩
  subst t0
  by_cases s0 : el = 0
  case neg =>
    have e1 : (el == 0) = false := by simpa using s0
    have HN : Hid (¬EndQ false R nB 3 a 0 el) := Lib.hid (fun z => s0 ((endQ_3n R nB a 0 el).1 z).2.2)
    clear s0
    go_enter Tryd.func31, Tryd.ntmps31
    go_wp2_with (go_at_call 53; (with_reducible refine (KA.out _).mono ?_); rintro e w2 ⟨rfl, hf⟩; have HF := Lib.hid hf; clear hf)
    go_ret
    exact ⟨⟨_, rfl, iff_of_false Bool.false_ne_true HN.out⟩, F0.out⟩
  have HQ : Hid (bA = true ↔ EndQ false R nB 3 a 0 el) := Lib.hid (by rw [endQ_3n R nB a 0 el]; exact ⟨fun z => ⟨HA.out.1 z, rfl, s0⟩, fun z => HA.out.2 z.1⟩)
  subst s0
  go_enter Tryd.func31, Tryd.ntmps31
  go_wp2_with (go_at_call 53; (with_reducible refine (KA.out _).mono ?_); rintro e w2 ⟨rfl, hf⟩; have HF := Lib.hid hf; clear hf)
  go_ret
  exact ⟨⟨_, rfl, HQ.out⟩, F0.out.trans HF.out⟩
set_option maxRecDepth 100000 in
set_option maxHeartbeats 4000000 in
theorem rend_no (nm : ByteArray) (vd : Bool) (pr R : Int) (oa ab : Option Addr) (nO nB oc bc : Nat) (hB : nB ≤ 40) (ins : Value) (en a t el : Int) (h1 : en ≠ 1) (h2 : en ≠ 2) (h3 : en ≠ 3) (w : World) : Calls Tryd.prog 31 #[.agg #[.string nm, .bool vd, .int .i64 pr, .int .i64 R, .slice oa nO oc, .slice ab nB bc], .agg #[ins, .int .i64 en, .int .i64 a, .int .i64 t, .int .i64 el]] w fun e w' => IsR (EndQ vd R nB en a t el) e ∧ Fr (fun _ => False) w w' := by
  have HN := Lib.hid (endQ_no vd R nB en a t el h1 h2 h3)
  have e1 : (en == 1) = false := by simpa using h1
  have e2 : (en == 2) = false := by simpa using h2
  have e3 : (en == 3) = false := by simpa using h3
  clear h1 h2 h3
  have F0 : Hid (Fr (fun _ => False) w ((w.alloc (.cells #[.string nm, .bool vd, .int .i64 pr, .int .i64 R, .slice oa nO oc, .slice ab nB bc] 50)).alloc (.cells #[ins, .int .i64 en, .int .i64 a, .int .i64 t, .int .i64 el] 41))) := Lib.hid (fr_al (fr_al (Fr.refl _ _) _) _)
  by_cases t0 : 0 ≤ t
  · by_cases t1 : t < nB
    · go_enter Tryd.func31, Tryd.ntmps31
      go_wp2
      go_ret
      exact ⟨⟨_, rfl, iff_of_false Bool.false_ne_true HN.out⟩, F0.out⟩
    · go_enter Tryd.func31, Tryd.ntmps31
      go_wp2
      go_ret
      exact ⟨⟨_, rfl, iff_of_false Bool.false_ne_true HN.out⟩, F0.out⟩
  · go_enter Tryd.func31, Tryd.ntmps31
    go_wp2
    go_ret
    exact ⟨⟨_, rfl, iff_of_false Bool.false_ne_true HN.out⟩, F0.out⟩
theorem rend_any (nm : ByteArray) (vd : Bool) (pr R : Int) (hR : 0 ≤ R ∧ R ≤ 8000) (oa ab : Option Addr) (nO nB oc bc : Nat) (hB : nB ≤ 40) (ins : Value) (en a t el : Int) (w : World) : Calls Tryd.prog 31 #[.agg #[.string nm, .bool vd, .int .i64 pr, .int .i64 R, .slice oa nO oc, .slice ab nB bc], .agg #[ins, .int .i64 en, .int .i64 a, .int .i64 t, .int .i64 el]] w fun e w' => IsR (EndQ vd R nB en a t el) e ∧ Fr (fun _ => False) w w' := by
  by_cases h1 : en = 1
  · subst h1; exact rend_1 nm vd pr R hR oa ab nO nB oc bc hB ins a t el w
  by_cases h2 : en = 2
  · subst h2; exact rend_2 nm vd pr R hR oa ab nO nB oc bc hB ins a t el w
  by_cases h3 : en = 3
  · subst h3
    cases vd
    · exact rend_3n nm pr R hR oa ab nO nB oc bc hB ins a t el w
    · exact rend_3v nm pr R hR oa ab nO nB oc bc hB ins a t el w
  exact rend_no nm vd pr R oa ab nO nB oc bc hB ins en a t el h1 h2 h3 w
end Go.Proofs.YtdhagimcffmdfaaDoor
