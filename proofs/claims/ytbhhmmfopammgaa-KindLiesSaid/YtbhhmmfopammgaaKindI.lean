/-
  Tables of types (layer 8): Ptr, Array, Open.
-/
import Derived.Test.YtbhhmmfopammgaaKindH
import Derived.Outline
namespace Go.Proofs.Ytbhhmmfopammgaa
open Go.RowKit
set_option linter.unusedVariables false
set_option linter.unusedSimpArgs false
theorem TOk.before {base tb : Nat} {v : Value} {w w1 w2 : World} {es : List Ent} (hf : Fr (fun _ => False) w w1) (hk : TOk base tb v w1 w2 es) : TOk base tb v w w2 es := by
  obtain ⟨v', h1, h2, h3⟩ := hk
  exact ⟨v', h1, (hf.mono (fun _ _ f => f.elim)).trans h2, fun g e => (h3 g e).imp id (fun q => by have := hf.size; omega)⟩
def makeA (es : List Ent) (x : Ent) : Int := if madeK es x < es.length then 3 + (madeK es x : Int) else addA es
def makeB (es : List Ent) (x : Ent) : Int := if madeK es x < es.length then 0 else addB es
theorem makeV_is (es : List Ent) (x : Ent) : makeV es x = .tuple #[.int .i64 (makeA es x), .int .i64 (makeB es x)] := by unfold makeV makeA makeB; split <;> first | rfl | exact addV_is es
def ptrE (n : Int) : Ent := ⟨3, n, 0, ⟨#[]⟩, none, 0, 0, 4, 4⟩
def arrE (n long : Int) (e : Ent) : Ent := ⟨4, n, long, ⟨#[]⟩, none, 0, 0, long * e.size, e.align⟩
def openE (nm : ByteArray) : Ent := ⟨5, 0, 0, nm, none, 0, 0, 0, 0⟩
theorem entry_ent {base : Nat} {w : World} {tb : Nat} {v : Value} {es : List Ent} (h : TabAt base w tb v es) (n : Int) (e : Ent) (he : entF es n = e) : Hid (∀ W, Fr (fun _ => False) w W → Calls Try.prog 33 #[.pointer (some ⟨tb, 0, none⟩), .int .i64 n] W fun r w' => r = .returned (.tuple #[.agg #[.int .i64 e.kind, .int .i64 e.elem, .int .i64 e.len, .string e.name, .slice e.fa e.fn e.fc, .int .i64 e.size, .int .i64 e.align], .int .i64 (entE es n)]) ∧ Fr (fun _ => False) W w') :=
  Lib.hid (fun W hW => by have := entry_at (h.kept hW id (fun _ _ => id)) n; rw [he] at this; exact this)
theorem entry_nil' (n : Int) : Hid (∀ W, Calls Try.prog 33 #[.pointer none, .int .i64 n] W fun r w' => r = .returned (.tuple #[.agg #[.int .i64 0, .int .i64 0, .int .i64 0, .string ⟨#[]⟩, .slice none 0 0, .int .i64 0, .int .i64 0], .int .i64 1]) ∧ Fr (fun _ => False) W w') :=
  Lib.hid (fun W => entry_nil n W)
theorem ptr_nil (n : Int) (w : World) : Calls Try.prog 25 #[.pointer none, .int .i64 n] w fun r w' => r = .returned (.tuple #[.int .i64 0, .int .i64 1]) ∧ Fr (fun _ => False) w w' := by
  have H := entry_nil' n
  go_enter Try.func25, Try.ntmps25
  go_wp2_with (go_at_call 33; (with_reducible refine (H.out _).mono ?_); rintro r w' ⟨rfl, hf⟩; have HV := Lib.hid hf; clear hf)
  go_ret2
  exact ⟨rfl, fr_al HV.out _⟩
def ptrA (es : List Ent) (n : Int) : Int := if entE es n = 0 then makeA es (ptrE n) else 0
def ptrB (es : List Ent) (n : Int) : Int := if entE es n = 0 then makeB es (ptrE n) else entE es n
def ptrL (es : List Ent) (n : Int) : List Ent := if entE es n = 0 then makeL es (ptrE n) else es
set_option maxHeartbeats 1000000 in
theorem ptr_of {base : Nat} {w : World} {tb : Nat} {v : Value} {es : List Ent} (h : TabAt base w tb v es) (n : Int) :
    Calls Try.prog 25 #[.pointer (some ⟨tb, 0, none⟩), .int .i64 n] w fun r w' => r = .returned (.tuple #[.int .i64 (ptrA es n), .int .i64 (ptrB es n)]) ∧ TOk base tb v w w' (ptrL es n) := by
  obtain ⟨e, he⟩ : ∃ e, entF es n = e := ⟨_, rfl⟩
  have H := entry_ent h n e he
  have HF := Lib.hid (Fr.refl (fun _ => False) w)
  have HQ := Lib.hid (fun W (hW : Fr (fun _ => False) w W) => TOk.quiet h hW)
  have H36 : Hid (∀ W, Fr (fun _ => False) w W → Calls Try.prog 36 #[.pointer (some ⟨tb, 0, none⟩), .agg #[.int .i64 3, .int .i64 n, .int .i64 0, .string ⟨#[]⟩, .slice none 0 0, .int .i64 4, .int .i64 4]] W fun r w' => r = .returned (.tuple #[.int .i64 (makeA es (ptrE n)), .int .i64 (makeB es (ptrE n))]) ∧ TOk base tb v w w' (makeL es (ptrE n))) :=
    Lib.hid (fun W hW => (construct_of (h.kept hW id (fun _ _ => id)) (ptrE n)).mono fun r w' ⟨a, b⟩ => ⟨by rw [← makeV_is]; exact a, TOk.before hW b⟩)
  clear he h
  unfold ptrA ptrB ptrL
  by_cases h0 : entE es n = 0
  · rw [if_pos h0, if_pos h0, if_pos h0]
    rw [h0] at H
    clear h0
    go_enter Try.func25, Try.ntmps25
    go_wp2_with (first
      | (go_at_call 33; (with_reducible refine (H.out _ HF.out).mono ?_); rintro r w' ⟨rfl, hf⟩; have HV := Lib.hid (fr_al hf (.cells (Ent.vals e).toArray 72)); clear hf)
      | (go_at_call 37; (with_reducible refine (pointer_of n _).mono ?_); rintro r w2 ⟨rfl, hf⟩; have HV2 := Lib.hid (HV.out.trans hf); clear hf)
      | (go_at_call 36; (with_reducible refine (H36.out _ HV2.out).mono ?_); rintro r w3 ⟨rfl, hk⟩; have HK := Lib.hid hk; clear hk))
    go_ret2
    exact ⟨rfl, HK.out⟩
  · rw [if_neg h0, if_neg h0, if_neg h0]
    generalize entE es n = er at *
    have hb : (er != 0) = true := by rw [bne_iff_ne]; exact h0
    clear h0
    go_enter Try.func25, Try.ntmps25
    go_wp2_with (go_at_call 33; (with_reducible refine (H.out _ HF.out).mono ?_); rintro r w' ⟨rfl, hf⟩; have HV := Lib.hid (fr_al hf (.cells (Ent.vals e).toArray 72)); clear hf)
    go_ret2
    exact ⟨rfl, HQ.out _ HV.out⟩
end Go.Proofs.Ytbhhmmfopammgaa
