/-
  Memories (layer 11): reach and Move on a memory of one object.
-/
import Derived.Test.YtonkfgjmienalaaStoE
import Derived.Outline
namespace Go.Proofs.Ytonkfgjmienalaa
open Go.RowKit
set_option linter.unusedVariables false
set_option linter.unusedSimpArgs false
/-- A memory of one object, with its bytes. -/
structure MAt (w : World) (sb ob : Nat) (C : Option Ch) (dead : Bool) (bs : List BC) : Prop where
  s : SAt w sb ob bs.length (chV C) (.map none) dead
  b : BAt w C bs
  d : ∀ b, Ch.has C b → b ≠ sb ∧ b ≠ ob
theorem MAt.quiet {w w' : World} {sb ob : Nat} {C : Option Ch} {dead : Bool} {bs : List BC} (h : MAt w sb ob C dead bs) (hf : Fr (fun _ => False) w w') : MAt w' sb ob C dead bs := ⟨h.s.quiet hf, h.b.quiet hf, h.d⟩
set_option maxHeartbeats 1000000 in
theorem reach_ok {w : World} {sb ob : Nat} {sz : Int} {ch mp : Value} (h : SAt w sb ob sz ch mp false) (lo hi off n : Int) (h0 : 0 ≤ off) (h1 : 0 ≤ n ∧ n ≤ 4) (h2 : off ≤ sz - n) (h3 : lo ≤ off) (h4 : off + n ≤ hi) (hsz : sz ≤ 32768) :
    Calls Try.prog 12 #[.pointer (some ⟨sb, 0, none⟩), .agg #[.int .i64 1, .int .i64 lo, .int .i64 hi, .int .i64 off], .int .i64 n] w fun r w' => r = .returned (.tuple #[.pointer (some ⟨ob, 0, none⟩), .int .i64 0]) ∧ Fr (fun _ => False) w w' := by
  have hfa : Fr (fun _ => False) w (w.alloc (.cells #[.int .i64 1, .int .i64 lo, .int .i64 hi, .int .i64 off] 24)) := fr_al (Fr.refl _ _) _
  have HP := Lib.hid (pointee_one (h.quiet hfa) lo hi off)
  have HO : Hid (∀ W, Fr (fun _ => False) (w.alloc (.cells #[.int .i64 1, .int .i64 lo, .int .i64 hi, .int .i64 off] 24)) W → Fr (fun _ => False) w W ∧ W.cell? ⟨ob, 0, none⟩ = some (.int .i64 sz) ∧ W.cell? ⟨w.heap.size, 1, none⟩ = some (.int .i64 lo) ∧ W.cell? ⟨w.heap.size, 2, none⟩ = some (.int .i64 hi) ∧ W.cell? ⟨w.heap.size, 3, none⟩ = some (.int .i64 off)) := Lib.hid (fun W hW => ⟨hfa.trans hW, (hfa.trans hW).cell h.o0 id, hW.cell (fcell w _ _ 1 _ rfl) id, hW.cell (fcell w _ _ 2 _ rfl) id, hW.cell (fcell w _ _ 3 _ rfl) id⟩)
  have d0 : decide ((0 : Int) ≤ off) = true := decide_eq_true h0
  have d1 : decide (off ≤ sz - n) = true := decide_eq_true h2
  have d2 : decide (off < lo) = false := decide_eq_false (by omega)
  have d3 : decide (hi < off + n) = false := decide_eq_false (by omega)
  clear h hfa
  go_enter Try.func12, Try.ntmps12
  go_wp2_with (go_at_call 10; (with_reducible refine HP.out.mono ?_); rintro r w1 ⟨rfl, hf⟩; obtain ⟨hfr, x0, x1, x2, x3⟩ := HO.out _ hf; have HF := Lib.hid hfr; clear hf hfr)
  go_quiet (fail)
  go_wp2
  go_ret2
  exact ⟨rfl, HF.out.drewN _⟩
set_option maxHeartbeats 1000000 in
theorem reach_bound {w : World} {sb ob : Nat} {sz : Int} {ch mp : Value} (h : SAt w sb ob sz ch mp false) (lo hi off n : Int) (h0 : 0 ≤ off) (h1 : 0 ≤ n ∧ n ≤ 4) (h2 : ¬ off ≤ sz - n) (hsz : 0 ≤ sz ∧ sz ≤ 32768) :
    Calls Try.prog 12 #[.pointer (some ⟨sb, 0, none⟩), .agg #[.int .i64 1, .int .i64 lo, .int .i64 hi, .int .i64 off], .int .i64 n] w fun r w' => r = .returned (.tuple #[.pointer none, .int .i64 12]) ∧ Fr (fun _ => False) w w' := by
  have hfa : Fr (fun _ => False) w (w.alloc (.cells #[.int .i64 1, .int .i64 lo, .int .i64 hi, .int .i64 off] 24)) := fr_al (Fr.refl _ _) _
  have HP := Lib.hid (pointee_one (h.quiet hfa) lo hi off)
  have HO : Hid (∀ W, Fr (fun _ => False) (w.alloc (.cells #[.int .i64 1, .int .i64 lo, .int .i64 hi, .int .i64 off] 24)) W → Fr (fun _ => False) w W ∧ W.cell? ⟨ob, 0, none⟩ = some (.int .i64 sz) ∧ W.cell? ⟨w.heap.size, 1, none⟩ = some (.int .i64 lo) ∧ W.cell? ⟨w.heap.size, 2, none⟩ = some (.int .i64 hi) ∧ W.cell? ⟨w.heap.size, 3, none⟩ = some (.int .i64 off)) := Lib.hid (fun W hW => ⟨hfa.trans hW, (hfa.trans hW).cell h.o0 id, hW.cell (fcell w _ _ 1 _ rfl) id, hW.cell (fcell w _ _ 2 _ rfl) id, hW.cell (fcell w _ _ 3 _ rfl) id⟩)
  have d0 : decide ((0 : Int) ≤ off) = true := decide_eq_true h0
  have d1 : decide (off ≤ sz - n) = false := decide_eq_false h2
  clear h hfa
  go_enter Try.func12, Try.ntmps12
  go_wp2_with (go_at_call 10; (with_reducible refine HP.out.mono ?_); rintro r w1 ⟨rfl, hf⟩; obtain ⟨hfr, x0, x1, x2, x3⟩ := HO.out _ hf; have HF := Lib.hid hfr; clear hf hfr)
  go_quiet (fail)
  go_wp2
  go_ret2
  exact ⟨rfl, HF.out.drewN _⟩
set_option maxHeartbeats 1000000 in
theorem reach_dead {w : World} {sb ob : Nat} {sz : Int} {ch mp : Value} (h : SAt w sb ob sz ch mp true) (lo hi off n : Int) :
    Calls Try.prog 12 #[.pointer (some ⟨sb, 0, none⟩), .agg #[.int .i64 1, .int .i64 lo, .int .i64 hi, .int .i64 off], .int .i64 n] w fun r w' => r = .returned (.tuple #[.pointer none, .int .i64 15]) ∧ Fr (fun _ => False) w w' := by
  have hfa : Fr (fun _ => False) w (w.alloc (.cells #[.int .i64 1, .int .i64 lo, .int .i64 hi, .int .i64 off] 24)) := fr_al (Fr.refl _ _) _
  have HP := Lib.hid (pointee_one (h.quiet hfa) lo hi off)
  have HO := Lib.hid hfa
  clear h hfa
  go_enter Try.func12, Try.ntmps12
  go_wp2_with (go_at_call 10; (with_reducible refine HP.out.mono ?_); rintro r w1 ⟨rfl, hf⟩; have HF := Lib.hid (HO.out.trans hf); clear hf)
  go_ret2
  exact ⟨rfl, HF.out⟩
set_option maxHeartbeats 2000000 in
theorem move_ok {w : World} {sb ob : Nat} {sz : Int} {ch mp : Value} (h : SAt w sb ob sz ch mp false) (lo hi off by_ : Int) (h0 : 0 ≤ off ∧ off ≤ 100000) (h1 : 0 ≤ by_ ∧ by_ ≤ 100000) (h3 : lo ≤ off + by_) (h4 : off + by_ ≤ hi) :
    Calls Try.prog 7 #[.pointer (some ⟨sb, 0, none⟩), .agg #[.int .i64 1, .int .i64 lo, .int .i64 hi, .int .i64 off], .int .i64 by_] w fun r w' => r = .returned (.tuple #[.agg #[.int .i64 1, .int .i64 lo, .int .i64 hi, .int .i64 (off + by_)], .int .i64 0]) ∧ Fr (fun _ => False) w w' := by
  have HB := boxes2 w #[.int .i64 1, .int .i64 lo, .int .i64 hi, .int .i64 off] #[.int .i64 0, .int .i64 0, .int .i64 0, .int .i64 0] 24 24
  have hf0 := (HB.out _ (Fr.refl _ _)).1
  have HP := Lib.hid (pointee_one (h.quiet hf0) lo hi off)
  have d0 : decide (off + by_ < off) = false := decide_eq_false (by omega)
  have d1 : decide (by_ < 0) = false := decide_eq_false (by omega)
  have d2 : decide (off + by_ < lo) = false := decide_eq_false (by omega)
  have d3 : decide (hi < off + by_) = false := decide_eq_false (by omega)
  have HFZ : Hid (∀ W, Fr (fun _ => False) ((w.alloc (.cells #[.int .i64 1, .int .i64 lo, .int .i64 hi, .int .i64 off] 24)).alloc (.cells #[.int .i64 0, .int .i64 0, .int .i64 0, .int .i64 0] 24)) W → W.frozen? ⟨w.heap.size, 3, none⟩ = false) := Lib.hid (fun W hW => by
    have h2 : Fr (fun _ => False) (w.alloc (.cells #[.int .i64 1, .int .i64 lo, .int .i64 hi, .int .i64 off] 24)) W := (fr_al (Fr.refl _ _) _).trans hW
    exact (h2.frozen (fcell w #[.int .i64 1, .int .i64 lo, .int .i64 hi, .int .i64 off] 24 3 _ rfl) id).trans (World.frozen?_alloc_new _ _ _ _))
  clear h hf0
  go_enter Try.func7, Try.ntmps7
  go_wp2_with (go_at_call 10; (with_reducible refine HP.out.mono ?_); rintro r w1 ⟨rfl, hf⟩; have hb := HB.out _ hf; have HF := Lib.hid hb.1; have zf := HFZ.out _ hf; have p0 := hb.2.2.1 0 _ rfl; have p1 := hb.2.2.1 1 _ rfl; have p2 := hb.2.2.1 2 _ rfl; have p3 := hb.2.2.1 3 _ rfl; obtain ⟨⟨x0, k0⟩, f0⟩ := hb.2.2.2 0 (by decide); obtain ⟨⟨x1, k1⟩, f1⟩ := hb.2.2.2 1 (by decide); obtain ⟨⟨x2, k2⟩, f2⟩ := hb.2.2.2 2 (by decide); obtain ⟨⟨x3, k3⟩, f3⟩ := hb.2.2.2 3 (by decide); clear hf hb)
  have n0 : ∀ x, (w1.setCell ⟨w.heap.size, 3, none⟩ x).cell? ⟨w.heap.size + 1, 0, none⟩ = some x0 := fun x => cell_far k0 (by simp)
  have n1 : ∀ x, (w1.setCell ⟨w.heap.size, 3, none⟩ x).cell? ⟨w.heap.size + 1, 1, none⟩ = some x1 := fun x => cell_far k1 (by simp)
  have n2 : ∀ x, (w1.setCell ⟨w.heap.size, 3, none⟩ x).cell? ⟨w.heap.size + 1, 2, none⟩ = some x2 := fun x => cell_far k2 (by simp)
  have n3 : ∀ x, (w1.setCell ⟨w.heap.size, 3, none⟩ x).cell? ⟨w.heap.size + 1, 3, none⟩ = some x3 := fun x => cell_far k3 (by simp)
  clear k0 k1 k2 k3
  exact bodyPost_ret (v := .tuple #[.agg #[.int .i64 1, .int .i64 lo, .int .i64 hi, .int .i64 (off + by_)], .int .i64 0]) (by simp [results, Try.results7, go_sem, set4' (n0 _) (n1 _) (n2 _) (n3 _)]) rfl ⟨rfl, fr_set (fr_set (fr_set (fr_set (fr_set HF.out (Nat.le_refl _) _ _) (by omega) _ _) (by omega) _ _) (by omega) _ _) (by omega) _ _⟩
end Go.Proofs.Ytonkfgjmienalaa
