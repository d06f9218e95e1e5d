/-
  The document's own tables of types (layer 8): Ptr, Array, Open; a struct that is not there.
-/
import Derived.Test.YtlhkhgkgjdfcgaaQKindDa
import Derived.Outline
namespace Go.Proofs.Ytlhkhgkgjdfcgaa
open Go.RowKit
set_option linter.unusedVariables false
set_option linter.unusedSimpArgs false
theorem made_box (w : World) : Hid (∀ W, Fr (fun _ => False) (w.alloc (.cells #[.int .i64 0, .slice none 0 0, .int .i64 0] 31)) W → Fr (fun _ => False) w W ∧ w.heap.size < W.heap.size ∧ ∀ j, j < 3 → (∃ x, W.cell? ⟨w.heap.size, j, none⟩ = some x) ∧ W.frozen? ⟨w.heap.size, j, none⟩ = false) := Lib.hid (fun W hW => by
    refine ⟨(fr_al (Fr.refl _ _) _).trans hW, by have := hW.size; simp at this; omega, fun j hj => ?_⟩
    have h0 : ∃ x, (w.alloc (.cells #[.int .i64 0, .slice none 0 0, .int .i64 0] 31)).cell? ⟨w.heap.size, j, none⟩ = some x := ⟨_, fcell w _ _ j _ (Array.getElem?_eq_getElem (by simpa using hj))⟩
    obtain ⟨x, h0⟩ := h0
    exact ⟨⟨x, hW.cell h0 id⟩, (hW.frozen h0 id).trans (World.frozen?_alloc_new _ _ _ _)⟩)
def ptrR (n : Int) : RT := ⟨3, n, 0, ⟨#[]⟩, none, 0, 0, false⟩
def arrR (n long : Int) : RT := ⟨4, n, long, ⟨#[]⟩, none, 0, 0, false⟩
def openR (nm : ByteArray) : RT := ⟨5, 0, 0, nm, none, 0, 0, true⟩
def rin (rs : List RT) (n : Int) : Bool := decide (0 ≤ n ∧ n < (rs.length : Int))
def rptrN (rs : List RT) (n : Int) : Int := if rin rs n then putN rs (ptrR n) else 0
def rptrX (rs : List RT) (n : Int) : Int := if rin rs n then putX rs (ptrR n) else 4
def rptrL (rs : List RT) (n : Int) : List RT := if rin rs n then putL rs (ptrR n) else rs
theorem rptr_of {w : World} {a : Option Addr} {n c : Nat} {rs : List RT} (h : RAt w a n rs) (hfew : n ≤ 1000) (m : Int) :
    Calls Try.prog 29 #[.slice a n c, .int .i64 m] w (MadeP w a rs (rptrN rs m) (rptrX rs m) (rptrL rs m)) := by
  have HB := made_box w
  have HF := Lib.hid (fr_al (Fr.refl (fun _ => False) w) (.cells #[.int .i64 0, .slice none 0 0, .int .i64 0] 31))
  have hin : rin rs m = decide (0 ≤ m ∧ m < (n : Int)) := by unfold rin; rw [h.1]
  obtain ⟨b, hb⟩ : ∃ b, rin rs m = b := ⟨_, rfl⟩
  have HI : Hid (∀ W, Calls Try.prog 24 #[.slice a n c, .int .i64 m] W fun r w' => r = .returned (.bool b) ∧ W = w') := Lib.hid (fun W => by have := is_of a n c m W; rw [← hin, hb] at this; exact this)
  have HP : Hid (∀ W, Fr (fun _ => False) w W → Calls Try.prog 43 #[.slice a n c, .agg #[.int .i64 3, .int .i64 m, .int .i64 0, .string ⟨#[]⟩, .slice none 0 0, .bool false]] W (MadeP W a rs (putN rs (ptrR m)) (putX rs (ptrR m)) (putL rs (ptrR m)))) := Lib.hid (fun W hW => put_of (h.quiet hW) hfew (ptrR m))
  have HH := Lib.hid h
  unfold rptrN rptrX rptrL
  rw [hb]
  clear h hin hb
  cases b with
  | true =>
    simp only [if_true]
    generalize putN rs (ptrR m) = N at *
    generalize putX rs (ptrR m) = E at *
    generalize putL rs (ptrR m) = L at *
    go_enter Try.func29, Try.ntmps29
    go_wp2_with (first
      | (go_at_call 24; (with_reducible refine (HI.out _).mono ?_); rintro r w1 ⟨rfl, rfl⟩)
      | (go_at_call 43; (with_reducible refine (HP.out _ HF.out).mono ?_); rintro r w2 ⟨a2, n2, c2, rfl, hr2, hf2, hd2⟩; obtain ⟨hv, lw, hb2⟩ := HB.out _ hf2; have HV := Lib.hid hv; have HR2 := Lib.hid hr2; have HD2 := Lib.hid hd2; clear hd2; obtain ⟨⟨b0, k0⟩, f0⟩ := hb2 0 (by decide); obtain ⟨⟨b1, k1⟩, f1⟩ := hb2 1 (by decide); obtain ⟨⟨b2, k2⟩, f2⟩ := hb2 2 (by decide); clear hb2 hv hf2 hr2))
    have hfr := fr_set (fr_set (fr_set HV.out (Nat.le_refl _) 0 (.int .i64 N)) (Nat.le_refl _) 1 (.slice a2 n2 c2)) (Nat.le_refl _) 2 (.int .i64 E)
    exact bodyPost_ret (v := .agg #[.int .i64 N, .slice a2 n2 c2, .int .i64 E]) (by simp [results, Try.results29, go_sem, set3' k0 k1 k2]) rfl (made_lift HH.out (by simp) HR2.out HD2.out (fr_setF (fr_setF (fr_setF (Fr.refl (fun j => j = w.heap.size) w2) rfl _ _) rfl _ _) rfl _ _) hfr)
  | false =>
    simp only [Bool.false_eq_true, if_false]
    go_enter Try.func29, Try.ntmps29
    go_wp2_with (go_at_call 24; (with_reducible refine (HI.out _).mono ?_); rintro r w1 ⟨rfl, rfl⟩)
    exact bodyPost_ret (v := .agg #[.int .i64 0, .slice a n c, .int .i64 4]) (by simp [results, Try.results29, go_sem]) rfl (made_same HH.out (fr_al (Fr.refl _ _) _))
end Go.Proofs.Ytlhkhgkgjdfcgaa
