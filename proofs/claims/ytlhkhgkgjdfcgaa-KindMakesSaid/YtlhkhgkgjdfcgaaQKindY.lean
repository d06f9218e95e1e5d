/-
  Tables of types (layer 8): Struct in all cases; what every table keeps.
-/
import Derived.Test.YtlhkhgkgjdfcgaaQKindX
import Derived.Outline
namespace Go.Proofs.Ytlhkhgkgjdfcgaa
open Go.RowKit
set_option linter.unusedVariables false
set_option linter.unusedSimpArgs false
/-- A type's size and alignment are within what the document allows. -/
def EntOk (e : Ent) : Prop := (0 ≤ e.size ∧ e.size ≤ 32768) ∧ (0 ≤ e.align ∧ e.align ≤ 4) ∧ (e.size ≠ 0 → 1 ≤ e.align)
def EsOk (es : List Ent) : Prop := ∀ e ∈ es, EntOk e
theorem entF_ok {es : List Ent} (h : EsOk es) (n : Int) : EntOk (entF es n) := by
  unfold entF
  split
  · refine ⟨?_, ?_, ?_⟩ <;> simp [ent0]
  · split
    · unfold firstEnt
      split
      · refine ⟨?_, ?_, ?_⟩ <;> simp [ent0]
      · split
        · refine ⟨?_, ?_, ?_⟩ <;> simp [ent1]
        · refine ⟨?_, ?_, ?_⟩ <;> simp [ent2]
    · have hk : (n - 3).toNat < es.length := by omega
      rw [List.getD_eq_getElem?_getD, List.getElem?_eq_getElem hk]
      exact h _ (List.getElem_mem hk)
theorem chk_zero {es : List Ent} {fs : List Fld} (h : chk es fs = 0) : 1 ≤ fs.length ∧ fs.any noName = false ∧ fs.any (noType es) = false ∧ fs.any (noSize es) = false ∧ repB fs = false := by
  unfold chk at h
  by_cases h0 : fs.length = 0
  · rw [if_pos h0] at h; cases h
  · rw [if_neg h0] at h
    revert h
    cases fs.any noName <;> cases fs.any (noType es) <;> cases fs.any (noSize es) <;> cases repB fs <;> simp <;> omega
theorem sized_of {es : List Ent} {fs : List Fld} (h : EsOk es) (hc : chk es fs = 0) : Sized es fs := by
  intro f hf
  have h1 := (chk_zero hc).2.2.2.1
  have h2 : noSize es f = false := by
    cases hh : noSize es f with
    | false => rfl
    | true => rw [List.any_eq_true.2 ⟨f, hf, hh⟩] at h1; cases h1
  unfold noSize at h2
  rw [beq_eq_false_iff_ne] at h2
  obtain ⟨⟨a0, a1⟩, ⟨b0, b1⟩, c⟩ := entF_ok h f.type
  have := c h2
  omega
set_option maxRecDepth 100000 in
set_option maxHeartbeats 1000000 in
theorem struct_of {base : Nat} {w : World} {tb : Nat} {v : Value} {es : List Ent} (h : TabAt base w tb v es) (hes : EsOk es) (nm : ByteArray) (a : Option Addr) (n c : Nat) (fs : List Fld) (hfs : FldAt w a n fs) (hlen : fs.length ≤ 1000) (hnm : ∀ f ∈ fs, f.name.size ≤ maxLen) :
    Calls Try.prog 28 #[.pointer (some ⟨tb, 0, none⟩), .string nm, .slice a n c] w (StructP base tb v es nm fs w) := by
  have hx : structX es nm fs = if ¬ findK es nm < es.length then 4 else if (es.getD (findK es nm) ent0).fn ≠ 0 then 4 else if chk es fs ≠ 0 then chk es fs else if 32768 < upI (layS es fs fs.length).1 (layS es fs fs.length).2.1 then 2 else 0 := rfl
  have HF := Lib.hid (Fr.refl (fun _ => False) w)
  by_cases hk : findK es nm < es.length
  · rw [if_neg (fun hh => hh hk)] at hx
    have H1 : Hid (Calls Try.prog 21 #[.pointer (some ⟨tb, 0, none⟩), .string nm] w fun r w' => r = .returned (.tuple #[.int .i64 (3 + (findK es nm : Int)), .int .i64 0]) ∧ Fr (fun _ => False) w w') :=
      Lib.hid ((find_of h nm).mono fun r w' h => by unfold FindP at h; rw [if_pos hk, if_pos hk] at h; exact h)
    have H2 : Hid (∀ W, Fr (fun _ => False) w W → Calls Try.prog 40 #[.pointer (some ⟨tb, 0, none⟩), .int .i64 (3 + (findK es nm : Int))] W fun r w' => r = .returned (.bool ((es.getD (findK es nm) ent0).fn == 0)) ∧ W = w') :=
      Lib.hid fun W hW => open_at (h.kept hW id (fun _ _ => id)) _ hk
    have hfew := h.few
    have hkk : (findK es nm : Int) ≤ 397 := by omega
    by_cases ho : (es.getD (findK es nm) ent0).fn = 0
    · rw [if_neg (fun hh => hh ho)] at hx
      have hob : ((es.getD (findK es nm) ent0).fn == 0) = true := by rw [beq_iff_eq]; exact ho
      rw [hob] at H2
      by_cases hc : chk es fs = 0
      · rw [if_neg (fun hh => hh hc)] at hx
        have hs := sized_of hes hc
        have h1 := (chk_zero hc).1
        by_cases hz : 32768 < upI (layS es fs fs.length).1 (layS es fs fs.length).2.1
        · rw [if_pos hz] at hx
          have H3 : Hid (∀ W, Fr (fun _ => False) w W → Calls Try.prog 41 #[.pointer (some ⟨tb, 0, none⟩), .slice a n c] W fun r w' => r = .returned (.int .i64 0) ∧ Fr (fun _ => False) W w') :=
            Lib.hid fun W hW => by have := check_of (h.kept hW id (fun _ _ => id)) a n c fs (hfs.quiet hW) hlen hnm; rw [hc] at this; exact this
          obtain ⟨sz, hsz⟩ : ∃ sz, upI (layS es fs fs.length).1 (layS es fs fs.length).2.1 = sz := ⟨_, rfl⟩
          have H4 : Hid (∀ W, Fr (fun _ => False) w W → Calls Try.prog 42 #[.pointer (some ⟨tb, 0, none⟩), .string nm, .slice a n c] W fun r w' => ∃ g c3 q al, r = .returned (.agg #[.int .i64 5, .int .i64 0, .int .i64 0, .string nm, .slice (some ⟨g, 0, none⟩) q c3, .int .i64 sz, .int .i64 al]) ∧ Fr (fun _ => False) w w') :=
            Lib.hid fun W hW => (lay_of (h.kept hW id (fun _ _ => id)) nm a n c fs (hfs.quiet hW) ⟨h1, hlen⟩ hs).mono fun r w' hr => by
              obtain ⟨g, c3, e1, e2, e3⟩ := hr
              rw [hsz] at e1
              exact ⟨g, c3, _, _, e1, hW.trans e3⟩
          rw [hsz] at hz
          have hzb : decide (32768 < sz) = true := decide_eq_true hz
          unfold StructP
          rw [hx]
          generalize findK es nm = k at *
          clear h hes hfs hlen hnm hx ho hob hc hs h1 hsz hk
          refine Calls.mono (R := fun r w' => r = .returned (.tuple #[.int .i64 0, .int .i64 2]) ∧ Fr (fun _ => False) w w') ?_ (fun r w' hr => .inl ⟨by decide, hr⟩)
          go_enter Try.func28, Try.ntmps28
          go_wp2_with (first
            | (go_at_call 21; (with_reducible refine H1.out.mono ?_); rintro r w1 ⟨rfl, hf⟩; have HV1 := Lib.hid hf; clear hf)
            | (go_at_call 40; (with_reducible refine (H2.out _ HV1.out).mono ?_); rintro r w2 ⟨rfl, rfl⟩)
            | (go_at_call 41; (with_reducible refine (H3.out _ HV1.out).mono ?_); rintro r w3 ⟨rfl, hf⟩; have HV3 := Lib.hid (HV1.out.trans hf); clear hf)
            | (go_at_call 42; (with_reducible refine (H4.out _ HV3.out).mono ?_); rintro r w4 ⟨g, c3, q, al, rfl, hfr4⟩; have HV4 := Lib.hid hfr4; clear hfr4))
          go_ret2
          exact ⟨rfl, fr_al HV4.out _⟩
        · rw [if_neg hz] at hx
          unfold StructP
          rw [hx]
          exact (struct_done h nm a n c fs hfs ⟨h1, hlen⟩ hs hnm hk hob hc (by omega)).mono fun r w' hr => .inr ⟨rfl, hr.1, hr.2⟩
      · rw [if_pos hc] at hx
        have H3 : Hid (∀ W, Fr (fun _ => False) w W → Calls Try.prog 41 #[.pointer (some ⟨tb, 0, none⟩), .slice a n c] W fun r w' => r = .returned (.int .i64 (chk es fs)) ∧ Fr (fun _ => False) W w') :=
          Lib.hid fun W hW => check_of (h.kept hW id (fun _ _ => id)) a n c fs (hfs.quiet hW) hlen hnm
        unfold StructP
        rw [hx]
        refine Calls.mono (R := fun r w' => r = .returned (.tuple #[.int .i64 0, .int .i64 (chk es fs)]) ∧ Fr (fun _ => False) w w') ?_ (fun r w' hr => .inl ⟨hc, hr⟩)
        have hcb : (chk es fs != 0) = true := by rw [bne_iff_ne]; exact hc
        generalize chk es fs = er at *
        generalize findK es nm = k at *
        clear h hes hfs hlen hnm hx ho hob hc hk
        go_enter Try.func28, Try.ntmps28
        go_wp2_with (first
          | (go_at_call 21; (with_reducible refine H1.out.mono ?_); rintro r w1 ⟨rfl, hf⟩; have HV1 := Lib.hid hf; clear hf)
          | (go_at_call 40; (with_reducible refine (H2.out _ HV1.out).mono ?_); rintro r w2 ⟨rfl, rfl⟩)
          | (go_at_call 41; (with_reducible refine (H3.out _ HV1.out).mono ?_); rintro r w3 ⟨rfl, hf⟩; have HV3 := Lib.hid (HV1.out.trans hf); clear hf))
        go_ret2
        exact ⟨rfl, HV3.out⟩
    · rw [if_pos ho] at hx
      have hob : ((es.getD (findK es nm) ent0).fn == 0) = false := by rw [beq_eq_false_iff_ne]; exact ho
      rw [hob] at H2
      unfold StructP
      rw [hx]
      refine Calls.mono (R := fun r w' => r = .returned (.tuple #[.int .i64 0, .int .i64 4]) ∧ Fr (fun _ => False) w w') ?_ (fun r w' hr => .inl ⟨by decide, hr⟩)
      generalize findK es nm = k at *
      clear h hes hfs hlen hnm hx ho hob hk
      go_enter Try.func28, Try.ntmps28
      go_wp2_with (first
        | (go_at_call 21; (with_reducible refine H1.out.mono ?_); rintro r w1 ⟨rfl, hf⟩; have HV1 := Lib.hid hf; clear hf)
        | (go_at_call 40; (with_reducible refine (H2.out _ HV1.out).mono ?_); rintro r w2 ⟨rfl, rfl⟩))
      go_ret2
      exact ⟨rfl, HV1.out⟩
  · rw [if_pos hk] at hx
    have H1 : Hid (Calls Try.prog 21 #[.pointer (some ⟨tb, 0, none⟩), .string nm] w fun r w' => r = .returned (.tuple #[.int .i64 0, .int .i64 4]) ∧ Fr (fun _ => False) w w') :=
      Lib.hid ((find_of h nm).mono fun r w' h => by unfold FindP at h; rw [if_neg hk, if_neg hk] at h; exact h)
    unfold StructP
    rw [hx]
    refine Calls.mono (R := fun r w' => r = .returned (.tuple #[.int .i64 0, .int .i64 4]) ∧ Fr (fun _ => False) w w') ?_ (fun r w' hr => .inl ⟨by decide, hr⟩)
    clear h hes hfs hlen hnm hx hk
    go_enter Try.func28, Try.ntmps28
    go_wp2_with (go_at_call 21; (with_reducible refine H1.out.mono ?_); rintro r w1 ⟨rfl, hf⟩; have HV1 := Lib.hid hf; clear hf)
    go_ret2
    exact ⟨rfl, HV1.out⟩
end Go.Proofs.Ytlhkhgkgjdfcgaa
