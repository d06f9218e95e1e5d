/-
  Memories (layer 11): the page's example.
-/
import Derived.Test.YtonkfgjmienalaaStoJ
import Derived.Outline
namespace Go.Proofs.Ytonkfgjmienalaa
open Go.RowKit
set_option linter.unusedVariables false
set_option linter.unusedSimpArgs false
def awB : List BC := List.replicate 8 bc0
def awP : List BC := putB awB 4 7 4
theorem awP_len : awP.length = 8 := by kernel_rfl
theorem aw_move1 {w : World} {sb ob : Nat} (h : MAt w sb ob none false awB) : Calls Try.prog 7 #[.pointer (some ⟨sb, 0, none⟩), .agg #[.int .i64 1, .int .i64 0, .int .i64 8, .int .i64 0], .int .i64 4] w fun r w' => r = .returned (.tuple #[.agg #[.int .i64 1, .int .i64 0, .int .i64 8, .int .i64 4], .int .i64 0]) ∧ Fr (fun _ => False) w w' :=
  move_ok h.s 0 8 0 4 (by decide) (by decide) (by decide) (by decide)
theorem aw_put {w : World} {sb ob : Nat} (h : MAt w sb ob none false awB) : Calls Try.prog 8 #[.pointer (some ⟨sb, 0, none⟩), .agg #[.int .i64 1, .int .i64 0, .int .i64 8, .int .i64 4], .int .i64 4, .agg #[.int .u32 7, .int .i64 0, .int .i64 0, .int .i64 0, .int .i64 0, .bool false]] w fun r w' => r = .returned (.int .i64 0) ∧ ∃ C', MAt w' sb ob C' false awP ∧ Fr (fun j => j = ob) w w' :=
  (put_num h (by decide) 0 8 4 4 (by decide) (by decide) (by decide) (by decide) (by decide) 7 0 0 0 0 (by decide) (by decide)).mono fun r w' hr => by
    obtain ⟨e, C', a, b, c⟩ := hr
    exact ⟨e, C', a, b.mono (fun j _ q => by rcases q with q | ⟨D, q, _⟩; exact q; cases q)⟩
theorem awP_set : ∀ i, i < 4 → (awP.getD (4 + i) bc0).s = true := by
  intro i hi
  have h4 : i = 0 ∨ i = 1 ∨ i = 2 ∨ i = 3 := by omega
  rcases h4 with rfl | rfl | rfl | rfl <;> rfl
theorem aw_load1 {w : World} {sb ob : Nat} {C : Option Ch} (h : MAt w sb ob C false awP) : Calls Try.prog 9 #[.pointer (some ⟨sb, 0, none⟩), .agg #[.int .i64 1, .int .i64 0, .int .i64 8, .int .i64 4], .int .i64 4, .bool false] w fun r w' => r = .returned (.tuple #[.agg #[.int .u32 7, .int .i64 0, .int .i64 0, .int .i64 0, .int .i64 0, .bool false], .int .i64 0]) ∧ Fr (fun _ => False) w w' := by
  have e7 : ldN awP 4 4 = 7 := by kernel_rfl
  have := load_set h (by rw [awP_len]; decide) 0 8 4 4 (by decide) (by decide) (by rw [awP_len]; decide) (by decide) (by decide) awP_set
  rw [e7] at this
  exact this
theorem aw_load2 {w : World} {sb ob : Nat} {C : Option Ch} (h : MAt w sb ob C false awP) : Calls Try.prog 9 #[.pointer (some ⟨sb, 0, none⟩), .agg #[.int .i64 1, .int .i64 0, .int .i64 8, .int .i64 0], .int .i64 4, .bool false] w fun r w' => r = .returned (.tuple #[.agg #[.int .u32 0, .int .i64 0, .int .i64 0, .int .i64 0, .int .i64 0, .bool false], .int .i64 13]) ∧ Fr (fun _ => False) w w' :=
  load_unset h (by rw [awP_len]; decide) 0 8 0 4 (by decide) (by decide) (by rw [awP_len]; decide) (by decide) (by decide) (by kernel_rfl)
theorem aw_move2 {w : World} {sb ob : Nat} {C : Option Ch} (h : MAt w sb ob C false awP) : Calls Try.prog 7 #[.pointer (some ⟨sb, 0, none⟩), .agg #[.int .i64 1, .int .i64 0, .int .i64 8, .int .i64 0], .int .i64 8] w fun r w' => r = .returned (.tuple #[.agg #[.int .i64 1, .int .i64 0, .int .i64 8, .int .i64 8], .int .i64 0]) ∧ Fr (fun _ => False) w w' :=
  move_ok h.s 0 8 0 8 (by decide) (by decide) (by decide) (by decide)
theorem aw_load3 {w : World} {sb ob : Nat} {C : Option Ch} (h : MAt w sb ob C false awP) : Calls Try.prog 9 #[.pointer (some ⟨sb, 0, none⟩), .agg #[.int .i64 1, .int .i64 0, .int .i64 8, .int .i64 8], .int .i64 1, .bool false] w fun r w' => r = .returned (.tuple #[.agg #[.int .u32 0, .int .i64 0, .int .i64 0, .int .i64 0, .int .i64 0, .bool false], .int .i64 12]) ∧ Fr (fun _ => False) w w' :=
  load_err sb 1 0 8 8 1 12 (by decide) (by decide) (Lib.hid fun W hW => reach_bound (h.quiet hW).s 0 8 8 1 (by decide) (by decide) (by rw [awP_len]; decide) (by rw [awP_len]; decide))
set_option maxRecDepth 100000 in
set_option maxHeartbeats 4000000 in
theorem awake_of (w : World) : Calls Try.prog 4 #[] w fun r w' => r = .returned (.bool true) ∧ Fr (fun _ => False) w w' := by
  have HMK : Hid (Calls Try.prog 6 #[.pointer (some ⟨w.heap.size, 0, none⟩), .int .i64 8] (w.alloc (.cells #[.slice none 0 0] 42)) fun r w' => r = .returned (.tuple #[.agg #[.int .i64 1, .int .i64 0, .int .i64 8, .int .i64 0], .int .i64 0]) ∧ ∃ ob, MAt w' w.heap.size ob none false awB ∧ Fr (fun _ => False) w w' ∧ ob < w'.heap.size ∧ w.heap.size ≤ ob) := Lib.hid ((make_of (fcell w _ _ 0 _ rfl) (World.frozen?_alloc_new _ _ _ _) 8 (by decide)).mono fun r w' hr => by
    obtain ⟨e, ob, a, b, c⟩ := hr
    exact ⟨e, ob, a, (fr_al (Fr.refl _ _) _).trans' b (fun j hj q => by omega), (a.lt (by decide)).2.1, by have := c; simp at this; omega⟩)
  go_enter Try.func4, Try.ntmps4
  go_wp2_with (first
    | (go_at_call 5; (with_reducible refine (new_of _).mono ?_); rintro r w1 ⟨rfl, rfl⟩)
    | (go_at_call 6; (with_reducible refine HMK.out.mono ?_); rintro r w2 ⟨rfl, ob, hm2, hf2, hob, hob2⟩; have HM2 := Lib.hid (hm2.quiet (fr_al (Fr.refl _ _) (.cells #[.int .i64 1, .int .i64 0, .int .i64 8, .int .i64 0] 24))); have HF2 := Lib.hid (fr_al hf2 (.cells #[.int .i64 1, .int .i64 0, .int .i64 8, .int .i64 0] 24)); clear hm2 hf2)
    | (go_at_call 7; (with_reducible refine (aw_move1 HM2.out).mono ?_); rintro r w3 ⟨rfl, hf3⟩; have HM3 := Lib.hid (HM2.out.quiet (fr_al hf3 (.cells #[.int .i64 1, .int .i64 0, .int .i64 8, .int .i64 4] 24))); have HF3 := Lib.hid (HF2.out.trans (fr_al hf3 (.cells #[.int .i64 1, .int .i64 0, .int .i64 8, .int .i64 4] 24))); have HP3 := Lib.hid (fun (j : Nat) (v : Value) (hv : (#[.int .i64 1, .int .i64 0, .int .i64 8, .int .i64 0] : Array Value)[j]? = some v) => (fr_al hf3 (.cells #[.int .i64 1, .int .i64 0, .int .i64 8, .int .i64 4] 24)).cell (fcell w2 _ 24 j v hv) id); have lw3 := hf3.size; clear hf3)
    | (go_at_call 8; (with_reducible refine (aw_put HM3.out).mono ?_); rintro r w4 ⟨rfl, C4, hm4, hf4⟩; have HM4 := Lib.hid hm4; have HP4 := Lib.hid (fun (j : Nat) (v : Value) (hv : (#[.int .i64 1, .int .i64 0, .int .i64 8, .int .i64 0] : Array Value)[j]? = some v) => hf4.cell (HP3.out j v hv) (by show ¬ w2.heap.size = ob; omega)); have HQ4 := Lib.hid (fun (j : Nat) (v : Value) (hv : (#[.int .i64 1, .int .i64 0, .int .i64 8, .int .i64 4] : Array Value)[j]? = some v) => hf4.cell (fcell w3 _ 24 j v hv) (by show ¬ w3.heap.size = ob; simp at lw3; omega)); have HF4 := Lib.hid (HF3.out.trans' hf4 (fun j hj e => by omega)); have a0 := HQ4.out 0 _ rfl; have a1 := HQ4.out 1 _ rfl; have a2 := HQ4.out 2 _ rfl; have a3 := HQ4.out 3 _ rfl; clear hm4 hf4)
    | (go_at_call 9; (with_reducible refine (aw_load1 HM4.out).mono ?_); rintro r w5 ⟨rfl, hf5⟩; have hg5 := fr_al hf5 (.cells #[.int .u32 7, .int .i64 0, .int .i64 0, .int .i64 0, .int .i64 0, .bool false] 26); have HM5 := Lib.hid (HM4.out.quiet hg5); have HF5 := Lib.hid (HF4.out.trans hg5); have b0 := hg5.cell (HP4.out 0 _ rfl) id; have b1 := hg5.cell (HP4.out 1 _ rfl) id; have b2 := hg5.cell (HP4.out 2 _ rfl) id; have b3 := hg5.cell (HP4.out 3 _ rfl) id; clear hf5 hg5)
    | (go_at_call 9; (with_reducible refine (aw_load2 HM5.out).mono ?_); rintro r w6 ⟨rfl, hf6⟩; have hg6 := fr_al hf6 (.cells #[.int .u32 0, .int .i64 0, .int .i64 0, .int .i64 0, .int .i64 0, .bool false] 26); have HM6 := Lib.hid (HM5.out.quiet hg6); have HF6 := Lib.hid (HF5.out.trans hg6); have d0 := hg6.cell b0 id; have d1 := hg6.cell b1 id; have d2 := hg6.cell b2 id; have d3 := hg6.cell b3 id; have HV6 := Lib.hid (hg6.cell (fcell w5 #[.int .u32 7, .int .i64 0, .int .i64 0, .int .i64 0, .int .i64 0, .bool false] 26 0 _ rfl) id); clear hf6 hg6)
    | (go_at_call 7; (with_reducible refine (aw_move2 HM6.out).mono ?_); rintro r w7 ⟨rfl, hf7⟩; have hg7 := fr_al hf7 (.cells #[.int .i64 1, .int .i64 0, .int .i64 8, .int .i64 8] 24); have HM7 := Lib.hid (HM6.out.quiet hg7); have HF7 := Lib.hid (HF6.out.trans hg7); have HV7 := Lib.hid (hg7.cell HV6.out id); clear hf7 hg7)
    | (go_at_call 9; (with_reducible refine (aw_load3 HM7.out).mono ?_); rintro r w8 ⟨rfl, hf8⟩; have hg8 := fr_al hf8 (.cells #[.int .u32 0, .int .i64 0, .int .i64 0, .int .i64 0, .int .i64 0, .bool false] 26); have HF8 := Lib.hid (HF7.out.trans hg8); have e0 := hg8.cell HV7.out id; have e1 := hf8.cell HV7.out id; clear hf8 hg8))
  go_ret
  exact ⟨rfl, HF8.out⟩
end Go.Proofs.Ytonkfgjmienalaa
