/-
  Tables of types (layer 8): the error of a struct's fields.
-/
import Derived.Test.YtlhkhgkgjdfcgaaQKindU
import Derived.Outline
namespace Go.Proofs.Ytlhkhgkgjdfcgaa
open Go.RowKit
set_option linter.unusedVariables false
set_option linter.unusedSimpArgs false
def noName (f : Fld) : Bool := f.name.toList.isEmpty
def noType (es : List Ent) (f : Fld) : Bool := entE es f.type != 0
def noSize (es : List Ent) (f : Fld) : Bool := (entF es f.type).size == 0
/-- The first error of a struct's fields, or 0. -/
def chk (es : List Ent) (fs : List Fld) : Int :=
  if fs.length = 0 then 1 else if fs.any noName then 1 else if fs.any (noType es) then 4 else if fs.any (noSize es) then 5 else if repB fs then 6 else 0
theorem FldAt.quiet {w w' : World} {a : Option Addr} {n : Nat} {fs : List Fld} (h : FldAt w a n fs) (hf : Fr (fun _ => False) w w') : FldAt w' a n fs := h.kept hf (fun _ _ _ _ => id)
set_option maxHeartbeats 4000000 in
theorem check_of {base : Nat} {w : World} {tb : Nat} {v : Value} {es : List Ent} (h : TabAt base w tb v es) (a : Option Addr) (n c : Nat) (fs : List Fld) (hfs : FldAt w a n fs) (hfew : fs.length ≤ 1000) (hnm : ∀ f ∈ fs, f.name.size ≤ maxLen) :
    Calls Try.prog 41 #[.pointer (some ⟨tb, 0, none⟩), .slice a n c] w fun r w' => r = .returned (.int .i64 (chk es fs)) ∧ Fr (fun _ => False) w w' := by
  have hmf : ∀ fn first cap w, (Instr.makeFunc fn first cap).run Try.prog w = .ok (.func fn first cap) w := fun _ _ _ _ => rfl
  have H1 : Hid (∀ W, Fr (fun _ => False) w W → Calls Try.prog 46 #[.slice a n c, .func (.func 47) #[] #[]] W fun r w' => r = .returned (.bool (fs.any noName)) ∧ Fr (fun _ => False) W w') :=
    Lib.hid fun W hW => contains_nameless W a n c noName fs (hfs.quiet hW) (by omega) (fun W2 _ k hk => nameless_of _ _ _ W2)
  have H2 : Hid (∀ W, Fr (fun _ => False) w W → Calls Try.prog 46 #[.slice a n c, .func (.func 48) #[.pointer (some ⟨tb, 0, none⟩)] #[]] W fun r w' => r = .returned (.bool (fs.any (noType es))) ∧ Fr (fun _ => False) W w') :=
    Lib.hid fun W hW => contains_typeless _ W a n c (noType es) fs (hfs.quiet hW) (by omega) (fun W2 hW2 k hk => typeless_of _ _ _ _ _ _ W2 (entry_ent (h.kept (hW.trans hW2) id (fun _ _ => id)) _ _ rfl))
  have H3 : Hid (∀ W, Fr (fun _ => False) w W → Calls Try.prog 46 #[.slice a n c, .func (.func 49) #[.pointer (some ⟨tb, 0, none⟩)] #[]] W fun r w' => r = .returned (.bool (fs.any (noSize es))) ∧ Fr (fun _ => False) W w') :=
    Lib.hid fun W hW => contains_sizeless _ W a n c (noSize es) fs (hfs.quiet hW) (by omega) (fun W2 hW2 k hk => sizeless_of _ _ _ _ _ W2 (Lib.hid fun W3 hW3 => size_at (h.kept ((hW.trans hW2).trans hW3) id (fun _ _ => id)) _))
  have H4 : Hid (∀ W, Fr (fun _ => False) w W → Calls Try.prog 50 #[.slice a n c] W fun r w' => r = .returned (.bool (repB fs)) ∧ Fr (fun _ => False) W w') :=
    Lib.hid fun W hW => repeats_of W a n c fs (hfs.quiet hW) (by omega) hnm
  have hx : chk es fs = if fs.length = 0 then 1 else if fs.any noName then 1 else if fs.any (noType es) then 4 else if fs.any (noSize es) then 5 else if repB fs then 6 else 0 := rfl
  have hn := hfs.1
  have HF := Lib.hid (Fr.refl (fun _ => False) w)
  clear h hfs hnm
  rw [← hn] at hx
  have hn2 : n ≤ 1000 := by omega
  clear hn hfew
  generalize fs.any noName = b1 at *
  generalize fs.any (noType es) = b2 at *
  generalize fs.any (noSize es) = b3 at *
  generalize repB fs = b4 at *
  by_cases h0 : n = 0
  · rw [if_pos h0] at hx
    rw [hx]
    subst h0
    clear hx
    go_enter Try.func41, Try.ntmps41
    go_wp2
    go_ret
    exact ⟨rfl, HF.out⟩
  · rw [if_neg h0] at hx
    have h0b : ((n : Int) == 0) = false := by rw [beq_eq_false_iff_ne]; omega
    cases b1 with
    | true =>
      simp only [if_true] at hx
      rw [hx]
      clear hx h0
      go_enter Try.func41, Try.ntmps41
      go_wp2_with (first
        | (with_reducible refine (H1.out _ HF.out).mono ?_; rintro r w1 ⟨rfl, hf⟩; have HV1 := Lib.hid hf; clear hf))
      go_ret
      exact ⟨rfl, HV1.out⟩
    | false =>
      cases b2 with
      | true =>
        simp only [if_true, Bool.false_eq_true, if_false] at hx
        rw [hx]
        clear hx h0
        go_enter Try.func41, Try.ntmps41
        go_wp2_with (first
          | (with_reducible refine (H1.out _ HF.out).mono ?_; rintro r w1 ⟨rfl, hf⟩; have HV1 := Lib.hid hf; clear hf)
          | (with_reducible refine (H2.out _ HV1.out).mono ?_; rintro r w2 ⟨rfl, hf⟩; have HV2 := Lib.hid (HV1.out.trans hf); clear hf))
        go_ret
        exact ⟨rfl, HV2.out⟩
      | false =>
        cases b3 with
        | true =>
          simp only [if_true, Bool.false_eq_true, if_false] at hx
          rw [hx]
          clear hx h0
          go_enter Try.func41, Try.ntmps41
          go_wp2_with (first
            | (with_reducible refine (H1.out _ HF.out).mono ?_; rintro r w1 ⟨rfl, hf⟩; have HV1 := Lib.hid hf; clear hf)
            | (with_reducible refine (H2.out _ HV1.out).mono ?_; rintro r w2 ⟨rfl, hf⟩; have HV2 := Lib.hid (HV1.out.trans hf); clear hf)
            | (with_reducible refine (H3.out _ HV2.out).mono ?_; rintro r w3 ⟨rfl, hf⟩; have HV3 := Lib.hid (HV2.out.trans hf); clear hf))
          go_ret
          exact ⟨rfl, HV3.out⟩
        | false =>
          cases b4 with
          | true =>
            simp only [if_true, Bool.false_eq_true, if_false] at hx
            rw [hx]
            clear hx h0
            go_enter Try.func41, Try.ntmps41
            go_wp2_with (first
              | (with_reducible refine (H1.out _ HF.out).mono ?_; rintro r w1 ⟨rfl, hf⟩; have HV1 := Lib.hid hf; clear hf)
              | (with_reducible refine (H2.out _ HV1.out).mono ?_; rintro r w2 ⟨rfl, hf⟩; have HV2 := Lib.hid (HV1.out.trans hf); clear hf)
              | (with_reducible refine (H3.out _ HV2.out).mono ?_; rintro r w3 ⟨rfl, hf⟩; have HV3 := Lib.hid (HV2.out.trans hf); clear hf)
              | (with_reducible refine (H4.out _ HV3.out).mono ?_; rintro r w4 ⟨rfl, hf⟩; have HV4 := Lib.hid (HV3.out.trans hf); clear hf))
            go_ret
            exact ⟨rfl, HV4.out⟩
          | false =>
            simp only [if_true, Bool.false_eq_true, if_false] at hx
            rw [hx]
            clear hx h0
            go_enter Try.func41, Try.ntmps41
            go_wp2_with (first
              | (with_reducible refine (H1.out _ HF.out).mono ?_; rintro r w1 ⟨rfl, hf⟩; have HV1 := Lib.hid hf; clear hf)
              | (with_reducible refine (H2.out _ HV1.out).mono ?_; rintro r w2 ⟨rfl, hf⟩; have HV2 := Lib.hid (HV1.out.trans hf); clear hf)
              | (with_reducible refine (H3.out _ HV2.out).mono ?_; rintro r w3 ⟨rfl, hf⟩; have HV3 := Lib.hid (HV2.out.trans hf); clear hf)
              | (with_reducible refine (H4.out _ HV3.out).mono ?_; rintro r w4 ⟨rfl, hf⟩; have HV4 := Lib.hid (HV3.out.trans hf); clear hf))
            go_ret
            exact ⟨rfl, HV4.out⟩
/-- Is a struct without fields yet? -/
theorem open_at {base : Nat} {w : World} {tb : Nat} {v : Value} {es : List Ent} (h : TabAt base w tb v es) (k : Nat) (hk : k < es.length) :
    Calls Try.prog 40 #[.pointer (some ⟨tb, 0, none⟩), .int .i64 (3 + (k : Int))] w fun r w' => r = .returned (.bool ((es.getD k ent0).fn == 0)) ∧ w = w' := by
  obtain ⟨a, c, rfl, hc⟩ := h.form
  obtain ⟨g, rfl, hg, hcell⟩ := hc k hk
  have hx := h.cell
  have hf := h.few
  obtain ⟨m, hm⟩ : ∃ m, es.length = m := ⟨_, rfl⟩
  rw [hm] at hx hf hk
  generalize es.getD k ent0 = e at *
  have q4 : w.cell? ⟨g, k * 7 + 4, none⟩ = some (.slice e.fa e.fn e.fc) := hcell 4 (by decide)
  have t1 : (3 : Int) + k - 3 = k := by omega
  have t3 : (0 : Int) ≤ k := by omega
  have t4 : (k : Int) < m := by omega
  have t5 : ((e.fn : Int) == 0) = (e.fn == 0) := by
    cases hh : (e.fn == 0) with
    | true => rw [beq_iff_eq] at hh ⊢; omega
    | false => rw [beq_eq_false_iff_ne] at hh ⊢; omega
  clear h hc hcell hm
  go_enter Try.func40, Try.ntmps40
  go_wp2
  go_ret
  exact ⟨by first | rfl | (rw [t5]; rfl) | simp [t5], rfl⟩
end Go.Proofs.Ytlhkhgkgjdfcgaa
