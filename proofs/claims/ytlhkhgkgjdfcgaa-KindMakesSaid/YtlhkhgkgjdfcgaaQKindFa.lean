/-
  The document's own tables of types (layer 8): Open, Array.
-/
import Derived.Test.YtlhkhgkgjdfcgaaQKindEa
import Derived.Outline
namespace Go.Proofs.Ytlhkhgkgjdfcgaa
open Go.RowKit
set_option linter.unusedVariables false
set_option linter.unusedSimpArgs false
def rfind (rs : List RT) (nm : ByteArray) : Nat := rs.findIdx (isRName nm)
def ropenN (rs : List RT) (nm : ByteArray) : Int := if nm.toList.isEmpty then 0 else if rfind rs nm < rs.length then 0 else putN rs (openR nm)
def ropenX (rs : List RT) (nm : ByteArray) : Int := if nm.toList.isEmpty then 1 else if rfind rs nm < rs.length then 6 else putX rs (openR nm)
def ropenL (rs : List RT) (nm : ByteArray) : List RT := if nm.toList.isEmpty then rs else if rfind rs nm < rs.length then rs else putL rs (openR nm)
set_option maxHeartbeats 1000000 in
theorem ropen_of {w : World} {a : Option Addr} {n c : Nat} {rs : List RT} (h : RAt w a n rs) (hfew : n ≤ 1000) (nm : ByteArray) :
    Calls Try.prog 31 #[.slice a n c, .string nm] w (MadeP w a rs (ropenN rs nm) (ropenX rs nm) (ropenL rs nm)) := by
  have HB := made_box w
  have HFB := HB
  have HF := Lib.hid (Fr.refl (fun _ => False) (w.alloc (.cells #[.int .i64 0, .slice none 0 0, .int .i64 0] 31)))
  have hfa : Fr (fun _ => False) w (w.alloc (.cells #[.int .i64 0, .slice none 0 0, .int .i64 0] 31)) := fr_al (Fr.refl _ _) _
  have HFI : Hid (∀ W, Fr (fun _ => False) (w.alloc (.cells #[.int .i64 0, .slice none 0 0, .int .i64 0] 31)) W → Calls Try.prog 22 #[.slice a n c, .string nm] W fun r w' => r = .returned (.int .i64 (if rfind rs nm < rs.length then (rfind rs nm : Int) else -1)) ∧ Fr (fun _ => False) (w.alloc (.cells #[.int .i64 0, .slice none 0 0, .int .i64 0] 31)) w') :=
    Lib.hid (fun W hW => (rfind_of (h.quiet (hfa.trans hW)) hfew nm).mono fun r w' hr => ⟨hr.1, hW.trans hr.2⟩)
  have HP : Hid (∀ W, Fr (fun _ => False) (w.alloc (.cells #[.int .i64 0, .slice none 0 0, .int .i64 0] 31)) W → Calls Try.prog 43 #[.slice a n c, .agg #[.int .i64 5, .int .i64 0, .int .i64 0, .string nm, .slice none 0 0, .bool true]] W fun r w' => MadeP W a rs (putN rs (openR nm)) (putX rs (openR nm)) (putL rs (openR nm)) r w') := Lib.hid (fun W hW => put_of (h.quiet (hfa.trans hW)) hfew (openR nm))
  have HH := Lib.hid h
  have hlen : (rfind rs nm : Int) ≤ 1000 := by
    have h1 := h.1
    have h2 : rfind rs nm ≤ rs.length := List.findIdx_le_length
    omega
  clear h hfa
  unfold ropenN ropenX ropenL
  cases he : nm.toList.isEmpty with
  | true =>
    simp only [if_true]
    have hb1 : (nm.toList == []) = true := by cases hl : nm.toList with | nil => rfl | cons a t => rw [hl] at he; cases he
    have hb2 : nm.toList = [] := by simpa using hb1
    go_enter Try.func31, Try.ntmps31
    go_wp2
    exact bodyPost_ret (v := .agg #[.int .i64 0, .slice a n c, .int .i64 1]) (by simp [results, Try.results31, go_sem]) rfl (made_same HH.out (fr_al (Fr.refl _ _) _))
  | false =>
    simp only [Bool.false_eq_true, if_false]
    by_cases hk : rfind rs nm < rs.length
    · rw [if_pos hk, if_pos hk, if_pos hk]
      rw [if_pos hk] at HFI
      generalize rfind rs nm = k at *
      clear hk
      go_enter Try.func31, Try.ntmps31
      go_wp2_with (go_at_call 22; (with_reducible refine (HFI.out _ HF.out).mono ?_); rintro r w1 ⟨rfl, hf⟩; have hfb := HFB.out _ hf; have HV1 := Lib.hid hf; have HVB := Lib.hid hfb.1; have lw1 := hfb.2.1; obtain ⟨⟨b0, k0⟩, f0⟩ := hfb.2.2 0 (by decide); obtain ⟨⟨b1, k1⟩, f1⟩ := hfb.2.2 1 (by decide); obtain ⟨⟨b2, k2⟩, f2⟩ := hfb.2.2 2 (by decide); clear hf hfb)
      exact bodyPost_ret (v := .agg #[.int .i64 0, .slice a n c, .int .i64 6]) (by simp [results, Try.results31, go_sem, set3' k0 k1 k2]) rfl (made_same HH.out (fr_set (fr_set (fr_set HVB.out (Nat.le_refl _) _ _) (Nat.le_refl _) _ _) (Nat.le_refl _) _ _))
    · rw [if_neg hk, if_neg hk, if_neg hk]
      rw [if_neg hk] at HFI
      generalize rfind rs nm = k at *
      clear hk
      generalize putN rs (openR nm) = N at *
      generalize putX rs (openR nm) = E at *
      generalize putL rs (openR nm) = L at *
      go_enter Try.func31, Try.ntmps31
      go_wp2_with (first
        | (go_at_call 22; (with_reducible refine (HFI.out _ HF.out).mono ?_); rintro r w1 ⟨rfl, hf⟩; have lw1 := (HB.out _ hf).2.1; have HV1 := Lib.hid hf; clear hf)
        | (go_at_call 43; (with_reducible refine (HP.out _ HV1.out).mono ?_); rintro r w2 ⟨a2, n2, c2, rfl, hr2, hf2, hd2⟩; obtain ⟨hv, lw, hb2⟩ := HB.out _ (HV1.out.trans hf2); have HV := Lib.hid hv; have HR2 := Lib.hid hr2; have HD2 := Lib.hid hd2; clear hd2; obtain ⟨⟨b0, k0⟩, f0⟩ := hb2 0 (by decide); obtain ⟨⟨b1, k1⟩, f1⟩ := hb2 1 (by decide); obtain ⟨⟨b2, k2⟩, f2⟩ := hb2 2 (by decide); clear hb2 hv hf2 hr2))
      have hfr := fr_set (fr_set (fr_set HV.out (Nat.le_refl _) 0 (.int .i64 N)) (Nat.le_refl _) 1 (.slice a2 n2 c2)) (Nat.le_refl _) 2 (.int .i64 E)
      exact bodyPost_ret (v := .agg #[.int .i64 N, .slice a2 n2 c2, .int .i64 E]) (by simp [results, Try.results31, go_sem, set3' k0 k1 k2]) rfl (made_lift HH.out lw1 HR2.out HD2.out (fr_setF (fr_setF (fr_setF (Fr.refl (fun j => j = w.heap.size) w2) rfl _ _) rfl _ _) rfl _ _) hfr)

def rarrX (rs : List RT) (n long s : Int) : Int := if rin rs n then (if s = 0 then 5 else if long < 1 then 1 else if 32768 < long then 2 else if 32768 < long * s then 2 else putX rs (arrR n long)) else 4
def rarrGo (rs : List RT) (n long s : Int) : Bool := rin rs n && (s != 0) && (decide (1 ≤ long)) && (decide (long ≤ 32768)) && (decide (long * s ≤ 32768))
def rarrN (rs : List RT) (n long s : Int) : Int := if rarrGo rs n long s then putN rs (arrR n long) else 0
def rarrL (rs : List RT) (n long s : Int) : List RT := if rarrGo rs n long s then putL rs (arrR n long) else rs
set_option maxHeartbeats 1000000 in
theorem rarray_of {w : World} {a : Option Addr} {n c : Nat} {rs : List RT} (h : RAt w a n rs) (hfew : n ≤ 1000) (m long s : Int) (hs : 0 ≤ s ∧ s ≤ 32768)
    (HS : Hid (∀ W, Fr (fun _ => False) w W → Calls Try.prog 15 #[.slice a n c, .int .i64 m] W fun r w' => r = .returned (.int .i64 s) ∧ Fr (fun _ => False) W w')) :
    Calls Try.prog 30 #[.slice a n c, .int .i64 m, .int .i64 long] w (MadeP w a rs (rarrN rs m long s) (rarrX rs m long s) (rarrL rs m long s)) := by
  have HB := made_box w
  have HF := Lib.hid (Fr.refl (fun _ => False) (w.alloc (.cells #[.int .i64 0, .slice none 0 0, .int .i64 0] 31)))
  have hfa : Fr (fun _ => False) w (w.alloc (.cells #[.int .i64 0, .slice none 0 0, .int .i64 0] 31)) := fr_al (Fr.refl _ _) _
  have hin : rin rs m = decide (0 ≤ m ∧ m < (n : Int)) := by unfold rin; rw [h.1]
  obtain ⟨b, hb⟩ : ∃ b, rin rs m = b := ⟨_, rfl⟩
  have HI : Hid (∀ W, Calls Try.prog 24 #[.slice a n c, .int .i64 m] W fun r w' => r = .returned (.bool b) ∧ W = w') := Lib.hid (fun W => by have := is_of a n c m W; rw [← hin, hb] at this; exact this)
  have HZ : Hid (∀ W, Fr (fun _ => False) (w.alloc (.cells #[.int .i64 0, .slice none 0 0, .int .i64 0] 31)) W → Calls Try.prog 15 #[.slice a n c, .int .i64 m] W fun r w' => r = .returned (.int .i64 s) ∧ Fr (fun _ => False) (w.alloc (.cells #[.int .i64 0, .slice none 0 0, .int .i64 0] 31)) w') :=
    Lib.hid (fun W hW => (HS.out W (hfa.trans hW)).mono fun r w' hr => ⟨hr.1, hW.trans hr.2⟩)
  have HP : Hid (∀ W, Fr (fun _ => False) (w.alloc (.cells #[.int .i64 0, .slice none 0 0, .int .i64 0] 31)) W → Calls Try.prog 43 #[.slice a n c, .agg #[.int .i64 4, .int .i64 m, .int .i64 long, .string ⟨#[]⟩, .slice none 0 0, .bool false]] W fun r w' => MadeP W a rs (putN rs (arrR m long)) (putX rs (arrR m long)) (putL rs (arrR m long)) r w') := Lib.hid (fun W hW => put_of (h.quiet (hfa.trans hW)) hfew (arrR m long))
  have HH := Lib.hid h
  obtain ⟨s0, s1⟩ := hs
  unfold rarrN rarrX rarrL rarrGo
  rw [hb]
  clear h hfa hin hb HS
  cases b with
  | false =>
    simp only [Bool.false_and, Bool.false_eq_true, if_false]
    go_enter Try.func30, Try.ntmps30
    go_wp2_with (go_at_call 24; (with_reducible refine (HI.out _).mono ?_); rintro r w1 ⟨rfl, rfl⟩)
    exact bodyPost_ret (v := .agg #[.int .i64 0, .slice a n c, .int .i64 4]) (by simp [results, Try.results30, go_sem]) rfl (made_same HH.out (fr_al (Fr.refl _ _) _))
  | true =>
    simp only [Bool.true_and, if_true]
    by_cases h1 : s = 0
    · have e1 : (s != 0) = false := by rw [h1]; rfl
      have e1b : (s == 0) = true := by rw [h1]; rfl
      rw [e1, if_pos h1]
      simp only [Bool.false_and, Bool.false_eq_true, if_false]
      subst h1
      go_enter Try.func30, Try.ntmps30
      go_wp2_with (first | (go_at_call 24; (with_reducible refine (HI.out _).mono ?_); rintro r w1 ⟨rfl, rfl⟩) | (go_at_call 15; (with_reducible refine (HZ.out _ HF.out).mono ?_); rintro r w1 ⟨rfl, hf⟩; have hfb := HB.out _ hf; have HV1 := Lib.hid hf; have HVB := Lib.hid hfb.1; have lw1 := hfb.2.1; obtain ⟨⟨b0, k0⟩, f0⟩ := hfb.2.2 0 (by decide); obtain ⟨⟨b1, k1⟩, f1⟩ := hfb.2.2 1 (by decide); obtain ⟨⟨b2, k2⟩, f2⟩ := hfb.2.2 2 (by decide); clear hf hfb))
      exact bodyPost_ret (v := .agg #[.int .i64 0, .slice a n c, .int .i64 5]) (by simp [results, Try.results30, go_sem, set3' k0 k1 k2]) rfl (made_same HH.out (fr_set (fr_set (fr_set HVB.out (Nat.le_refl _) _ _) (Nat.le_refl _) _ _) (Nat.le_refl _) _ _))
    · have e1 : (s != 0) = true := by rw [bne_iff_ne]; exact h1
      have e1b : (s == 0) = false := by rw [beq_eq_false_iff_ne]; exact h1
      rw [e1, if_neg h1]
      simp only [Bool.true_and]
      by_cases h2 : long < 1
      · rw [if_pos h2, decide_eq_false (p := 1 ≤ long) (by omega)]
        simp only [Bool.false_and, Bool.false_eq_true, if_false]
        clear h1
        go_enter Try.func30, Try.ntmps30
        go_wp2_with (first | (go_at_call 24; (with_reducible refine (HI.out _).mono ?_); rintro r w1 ⟨rfl, rfl⟩) | (go_at_call 15; (with_reducible refine (HZ.out _ HF.out).mono ?_); rintro r w1 ⟨rfl, hf⟩; have hfb := HB.out _ hf; have HV1 := Lib.hid hf; have HVB := Lib.hid hfb.1; have lw1 := hfb.2.1; obtain ⟨⟨b0, k0⟩, f0⟩ := hfb.2.2 0 (by decide); obtain ⟨⟨b1, k1⟩, f1⟩ := hfb.2.2 1 (by decide); obtain ⟨⟨b2, k2⟩, f2⟩ := hfb.2.2 2 (by decide); clear hf hfb))
        exact bodyPost_ret (v := .agg #[.int .i64 0, .slice a n c, .int .i64 1]) (by simp [results, Try.results30, go_sem, set3' k0 k1 k2]) rfl (made_same HH.out (fr_set (fr_set (fr_set HVB.out (Nat.le_refl _) _ _) (Nat.le_refl _) _ _) (Nat.le_refl _) _ _))
      · rw [if_neg h2, decide_eq_true (p := 1 ≤ long) (by omega)]
        simp only [Bool.true_and]
        have e2 : decide (long < 1) = false := decide_eq_false h2
        by_cases h3 : 32768 < long
        · rw [if_pos h3, decide_eq_false (p := long ≤ 32768) (by omega)]
          simp only [Bool.false_and, Bool.false_eq_true, if_false]
          clear h1 h2
          go_enter Try.func30, Try.ntmps30
          go_wp2_with (first | (go_at_call 24; (with_reducible refine (HI.out _).mono ?_); rintro r w1 ⟨rfl, rfl⟩) | (go_at_call 15; (with_reducible refine (HZ.out _ HF.out).mono ?_); rintro r w1 ⟨rfl, hf⟩; have hfb := HB.out _ hf; have HV1 := Lib.hid hf; have HVB := Lib.hid hfb.1; have lw1 := hfb.2.1; obtain ⟨⟨b0, k0⟩, f0⟩ := hfb.2.2 0 (by decide); obtain ⟨⟨b1, k1⟩, f1⟩ := hfb.2.2 1 (by decide); obtain ⟨⟨b2, k2⟩, f2⟩ := hfb.2.2 2 (by decide); clear hf hfb))
          exact bodyPost_ret (v := .agg #[.int .i64 0, .slice a n c, .int .i64 2]) (by simp [results, Try.results30, go_sem, set3' k0 k1 k2]) rfl (made_same HH.out (fr_set (fr_set (fr_set HVB.out (Nat.le_refl _) _ _) (Nat.le_refl _) _ _) (Nat.le_refl _) _ _))
        · rw [if_neg h3, decide_eq_true (p := long ≤ 32768) (by omega)]
          simp only [Bool.true_and]
          have e3 : decide (32768 < long) = false := decide_eq_false h3
          have m0 : 0 ≤ long * s := Int.mul_nonneg (by omega) s0
          have m1 : long * s ≤ 32768 * 32768 := Int.mul_le_mul (by omega) s1 s0 (by decide)
          obtain ⟨p, hp⟩ : ∃ p, long * s = p := ⟨_, rfl⟩
          rw [hp] at m0 m1 ⊢
          by_cases h4 : 32768 < p
          · rw [if_pos h4, decide_eq_false (p := p ≤ 32768) (by omega)]
            simp only [Bool.false_eq_true, if_false]
            clear h1 h2 h3
            go_enter Try.func30, Try.ntmps30
            go_wp2_with (first | (go_at_call 24; (with_reducible refine (HI.out _).mono ?_); rintro r w1 ⟨rfl, rfl⟩) | (go_at_call 15; (with_reducible refine (HZ.out _ HF.out).mono ?_); rintro r w1 ⟨rfl, hf⟩; have hfb := HB.out _ hf; have HV1 := Lib.hid hf; have HVB := Lib.hid hfb.1; have lw1 := hfb.2.1; obtain ⟨⟨b0, k0⟩, f0⟩ := hfb.2.2 0 (by decide); obtain ⟨⟨b1, k1⟩, f1⟩ := hfb.2.2 1 (by decide); obtain ⟨⟨b2, k2⟩, f2⟩ := hfb.2.2 2 (by decide); clear hf hfb))
            exact bodyPost_ret (v := .agg #[.int .i64 0, .slice a n c, .int .i64 2]) (by simp [results, Try.results30, go_sem, set3' k0 k1 k2]) rfl (made_same HH.out (fr_set (fr_set (fr_set HVB.out (Nat.le_refl _) _ _) (Nat.le_refl _) _ _) (Nat.le_refl _) _ _))
          · rw [if_neg h4, decide_eq_true (p := p ≤ 32768) (by omega)]
            simp only [if_true]
            have e4 : decide (32768 < p) = false := decide_eq_false h4
            clear h1 h2 h3 h4
            generalize putN rs (arrR m long) = N at *
            generalize putX rs (arrR m long) = E at *
            generalize putL rs (arrR m long) = L at *
            go_enter Try.func30, Try.ntmps30
            go_wp2_with (first | (go_at_call 24; (with_reducible refine (HI.out _).mono ?_); rintro r w1 ⟨rfl, rfl⟩) | (go_at_call 15; (with_reducible refine (HZ.out _ HF.out).mono ?_); rintro r w1 ⟨rfl, hf⟩; have lw1 := (HB.out _ hf).2.1; have HV1 := Lib.hid hf; clear hf) | (go_at_call 43; (with_reducible refine (HP.out _ HV1.out).mono ?_); rintro r w2 ⟨a2, n2, c2, rfl, hr2, hf2, hd2⟩; obtain ⟨hv, lw, hb2⟩ := HB.out _ (HV1.out.trans hf2); have HV := Lib.hid hv; have HR2 := Lib.hid hr2; have HD2 := Lib.hid hd2; clear hd2; obtain ⟨⟨b0, k0⟩, f0⟩ := hb2 0 (by decide); obtain ⟨⟨b1, k1⟩, f1⟩ := hb2 1 (by decide); obtain ⟨⟨b2, k2⟩, f2⟩ := hb2 2 (by decide); clear hb2 hv hf2 hr2))
            have hfr := fr_set (fr_set (fr_set HV.out (Nat.le_refl _) 0 (.int .i64 N)) (Nat.le_refl _) 1 (.slice a2 n2 c2)) (Nat.le_refl _) 2 (.int .i64 E)
            exact bodyPost_ret (v := .agg #[.int .i64 N, .slice a2 n2 c2, .int .i64 E]) (by simp [results, Try.results30, go_sem, set3' k0 k1 k2]) rfl (made_lift HH.out lw1 HR2.out HD2.out (fr_setF (fr_setF (fr_setF (Fr.refl (fun j => j = w.heap.size) w2) rfl _ _) rfl _ _) rfl _ _) hfr)

end Go.Proofs.Ytlhkhgkgjdfcgaa
