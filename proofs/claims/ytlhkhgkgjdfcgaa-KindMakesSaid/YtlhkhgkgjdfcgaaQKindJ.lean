/-
  Tables of types (layer 8): Array, Open.
-/
import Derived.Test.YtlhkhgkgjdfcgaaQKindH
import Derived.Outline
namespace Go.Proofs.Ytlhkhgkgjdfcgaa
open Go.RowKit
set_option linter.unusedVariables false
set_option linter.unusedSimpArgs false
theorem array_nil (n long : Int) (w : World) : Calls Try.prog 26 #[.pointer none, .int .i64 n, .int .i64 long] w fun r w' => r = .returned (.tuple #[.int .i64 0, .int .i64 1]) ∧ Fr (fun _ => False) w w' := by
  have H := entry_nil' n
  go_enter Try.func26, Try.ntmps26
  go_wp2_with (go_at_call 33; (with_reducible refine (H.out _).mono ?_); rintro r w' ⟨rfl, hf⟩; have HV := Lib.hid hf; clear hf)
  go_ret2
  exact ⟨rfl, fr_al HV.out _⟩
theorem open_nil (nm : ByteArray) (w : World) : Calls Try.prog 27 #[.pointer none, .string nm] w fun r w' => r = .returned (.tuple #[.int .i64 0, .int .i64 1]) ∧ w = w' := by
  go_enter Try.func27, Try.ntmps27
  go_wp2
  go_ret2
  exact ⟨rfl, rfl⟩
/-- The error of an array, or 0. -/
def arrX (es : List Ent) (n long : Int) : Int :=
  if entE es n ≠ 0 then entE es n else if (entF es n).size = 0 then 5 else if long < 1 then 1 else if 32768 / (entF es n).size < long then 2 else 0
def arrA (es : List Ent) (n long : Int) : Int := if arrX es n long = 0 then makeA es (arrE n long (entF es n)) else 0
def arrB (es : List Ent) (n long : Int) : Int := if arrX es n long = 0 then makeB es (arrE n long (entF es n)) else arrX es n long
def arrL (es : List Ent) (n long : Int) : List Ent := if arrX es n long = 0 then makeL es (arrE n long (entF es n)) else es
set_option maxHeartbeats 4000000 in
theorem array_at {base : Nat} {w : World} {tb : Nat} {v : Value} {es : List Ent} (h : TabAt base w tb v es) (n long : Int) (hs : 0 ≤ (entF es n).size ∧ (entF es n).size ≤ 32768) :
    Calls Try.prog 26 #[.pointer (some ⟨tb, 0, none⟩), .int .i64 n, .int .i64 long] w fun r w' => r = .returned (.tuple #[.int .i64 (arrA es n long), .int .i64 (arrB es n long)]) ∧ TOk base tb v w w' (arrL es n long) := by
  unfold arrA arrB arrL
  have hx : arrX es n long = if entE es n ≠ 0 then entE es n else if (entF es n).size = 0 then 5 else if long < 1 then 1 else if 32768 / (entF es n).size < long then 2 else 0 := rfl
  obtain ⟨e, he⟩ : ∃ e, entF es n = e := ⟨_, rfl⟩
  rw [he] at hx hs ⊢
  have H := entry_ent h n e he
  have HF := Lib.hid (Fr.refl (fun _ => False) w)
  have HQ := Lib.hid (fun W (hW : Fr (fun _ => False) w W) => TOk.quiet h hW)
  obtain ⟨s0, s1⟩ := hs
  by_cases h0 : entE es n = 0
  · rw [if_neg (by omega)] at hx
    rw [h0] at H
    by_cases h1 : e.size = 0
    · rw [if_pos h1] at hx
      rw [hx, if_neg (by decide), if_neg (by decide), if_neg (by decide)]
      clear he h hx h0
      go_enter Try.func26, Try.ntmps26
      go_wp2_with (go_at_call 33; (with_reducible refine (H.out _ HF.out).mono ?_); rintro r w' ⟨rfl, hf⟩; have HV := Lib.hid (fr_al hf (.cells (Ent.vals e).toArray 72)); clear hf)
      go_ret2
      exact ⟨rfl, HQ.out _ (by have := HV.out; rw [show Ent.vals e = [.int .i64 e.kind, .int .i64 e.elem, .int .i64 e.len, .string e.name, .slice e.fa e.fn e.fc, .int .i64 e.size, .int .i64 e.align] from rfl, h1] at this; exact this)⟩
    · have h1b : (e.size == 0) = false := by rw [beq_eq_false_iff_ne]; exact h1
      rw [if_neg h1] at hx
      by_cases h2 : long < 1
      · rw [if_pos h2] at hx
        rw [hx, if_neg (by decide), if_neg (by decide), if_neg (by decide)]
        clear he h hx h0 h1
        go_enter Try.func26, Try.ntmps26
        go_wp2_with (go_at_call 33; (with_reducible refine (H.out _ HF.out).mono ?_); rintro r w' ⟨rfl, hf⟩; have HV := Lib.hid (fr_al hf (.cells (Ent.vals e).toArray 72)); clear hf)
        go_ret2
        exact ⟨rfl, HQ.out _ HV.out⟩
      · have h2b : decide (long < 1) = false := decide_eq_false h2
        rw [if_neg h2] at hx
        have hd : (32768 : Int).tdiv e.size = 32768 / e.size := Int.tdiv_eq_ediv_of_nonneg (by decide)
        have hp : 0 < e.size := by omega
        have hd0 : 0 ≤ 32768 / e.size := Int.ediv_nonneg (by decide) s0
        have hd1 : 32768 / e.size ≤ 32768 := Int.ediv_le_self _ (by decide)
        by_cases h3 : 32768 / e.size < long
        · rw [if_pos h3] at hx
          rw [hx, if_neg (by decide), if_neg (by decide), if_neg (by decide)]
          clear he h hx h0 h2
          go_enter Try.func26, Try.ntmps26
          go_wp2_with (go_at_call 33; (with_reducible refine (H.out _ HF.out).mono ?_); rintro r w' ⟨rfl, hf⟩; have HV := Lib.hid (fr_al hf (.cells (Ent.vals e).toArray 72)); clear hf)
          go_ret2
          exact ⟨rfl, HQ.out _ HV.out⟩
        · rw [if_neg h3] at hx
          have h3b : decide (32768 / e.size < long) = false := decide_eq_false h3
          rw [hx, if_pos rfl, if_pos rfl, if_pos rfl]
          have H36 : Hid (∀ W, Fr (fun _ => False) w W → Calls Try.prog 36 #[.pointer (some ⟨tb, 0, none⟩), .agg #[.int .i64 4, .int .i64 n, .int .i64 long, .string ⟨#[]⟩, .slice none 0 0, .int .i64 (long * e.size), .int .i64 e.align]] W fun r w' => r = .returned (.tuple #[.int .i64 (makeA es (arrE n long e)), .int .i64 (makeB es (arrE n long e))]) ∧ TOk base tb v w w' (makeL es (arrE n long e))) :=
            Lib.hid (fun W hW => (construct_of (h.kept hW id (fun _ _ => id)) (arrE n long e)).mono fun r w' ⟨a, b⟩ => ⟨by rw [← makeV_is]; exact a, TOk.before hW b⟩)
          have HARR := Lib.hid (fun W => array_of n long e ⟨s0, s1⟩ (by omega) W)
          clear he h hx h0 h2 h3
          go_enter Try.func26, Try.ntmps26
          go_wp2_with (first
            | (go_at_call 33; (with_reducible refine (H.out _ HF.out).mono ?_); rintro r w' ⟨rfl, hf⟩; have HV := Lib.hid (fr_al hf (.cells (Ent.vals e).toArray 72)); clear hf)
            | (go_at_call 38; (with_reducible refine (HARR.out _).mono ?_); rintro r w2 ⟨rfl, hf⟩; have HV2 := Lib.hid (HV.out.trans hf); clear hf)
            | (go_at_call 36; (with_reducible refine (H36.out _ HV2.out).mono ?_); rintro r w3 ⟨rfl, hk⟩; have HK := Lib.hid hk; clear hk))
          go_ret2
          exact ⟨rfl, HK.out⟩
  · rw [if_pos h0] at hx
    rw [hx, if_neg h0, if_neg h0, if_neg h0]
    clear hx he h
    generalize entE es n = er at *
    have hb : (er != 0) = true := by rw [bne_iff_ne]; exact h0
    clear h0
    go_enter Try.func26, Try.ntmps26
    go_wp2_with (go_at_call 33; (with_reducible refine (H.out _ HF.out).mono ?_); rintro r w' ⟨rfl, hf⟩; have HV := Lib.hid (fr_al hf (.cells (Ent.vals e).toArray 72)); clear hf)
    go_ret2
    exact ⟨rfl, HQ.out _ HV.out⟩
end Go.Proofs.Ytlhkhgkgjdfcgaa
