/-
  Memories (layer 11): the bytes of an object: at, set, forget.
-/
import Derived.Test.YtonkfgjmienalaaStoB
import Derived.Laws.MakeOwn
import Derived.LoopTactic
import Derived.Outline
namespace Go.Proofs.Ytonkfgjmienalaa
open Go.RowKit
set_option linter.unusedVariables false
set_option linter.unusedSimpArgs false
structure BC where
  v : Int
  s : Bool
def bc0 : BC := ⟨0, false⟩
/-- Where an object's bytes lie, if some were set: the block of the chunks, the block of the bytes. -/
structure Ch where
  cb : Nat
  kb : Nat
  c1 : Nat
  c2 : Nat
def chV : Option Ch → Value
  | none => .slice none 0 0
  | some C => .slice (some ⟨C.cb, 0, none⟩) 1 C.c1
def BAt (w : World) : Option Ch → List BC → Prop
  | none, bs => ∀ i, i < bs.length → bs.getD i bc0 = bc0
  | some C, bs => w.cell? ⟨C.cb, 0, none⟩ = some (.slice (some ⟨C.kb, 0, none⟩) bs.length C.c2) ∧ C.cb ≠ C.kb ∧ ∀ i, i < bs.length → w.cell? ⟨C.kb, i * 2, none⟩ = some (.int .u8 (bs.getD i bc0).v) ∧ w.cell? ⟨C.kb, i * 2 + 1, none⟩ = some (.bool (bs.getD i bc0).s) ∧ w.frozen? ⟨C.kb, i * 2, none⟩ = false ∧ w.frozen? ⟨C.kb, i * 2 + 1, none⟩ = false
def Ch.has (C : Option Ch) (b : Nat) : Prop := ∃ D, C = some D ∧ (b = D.cb ∨ b = D.kb)
theorem BAt.kept {F : Nat → Prop} {w w' : World} {C : Option Ch} {bs : List BC} (h : BAt w C bs) (hf : Fr F w w') (hn : ∀ b, Ch.has C b → ¬ F b) : BAt w' C bs := by
  cases C with
  | none => exact h
  | some D =>
    obtain ⟨h1, h2, h3⟩ := h
    have n1 := hn D.cb ⟨D, rfl, .inl rfl⟩
    have n2 := hn D.kb ⟨D, rfl, .inr rfl⟩
    refine ⟨hf.cell h1 n1, h2, fun i hi => ?_⟩
    obtain ⟨a, b, c, d⟩ := h3 i hi
    exact ⟨hf.cell a n2, hf.cell b n2, (hf.frozen a n2).trans c, (hf.frozen b n2).trans d⟩
theorem BAt.quiet {w w' : World} {C : Option Ch} {bs : List BC} (h : BAt w C bs) (hf : Fr (fun _ => False) w w') : BAt w' C bs := h.kept hf (fun _ _ => id)
theorem chunk_nil (w : World) : Sem.run Try.prog (binOp BinOp.eql 43 (.slice none 0 0) (.slice none 0 0)) w = .ok (.bool true) w := by kernel_rfl
theorem chunk_not (g o n c : Nat) (w : World) : Sem.run Try.prog (binOp BinOp.eql 43 (.slice (some ⟨g, o, none⟩) n c) (.slice none 0 0)) w = .ok (.bool false) w := by kernel_rfl
theorem cells_nil (w : World) : Sem.run Try.prog (binOp BinOp.eql 63 (.slice none 0 0) (.slice none 0 0)) w = .ok (.bool true) w := by kernel_rfl
theorem cells_not (g o n c : Nat) (w : World) : Sem.run Try.prog (binOp BinOp.eql 63 (.slice (some ⟨g, o, none⟩) n c) (.slice none 0 0)) w = .ok (.bool false) w := by kernel_rfl
set_option maxHeartbeats 1000000 in
theorem at_of {w : World} {sb ob : Nat} {sz : Int} {C : Option Ch} {mp : Value} {dead : Bool} {bs : List BC} (h : SAt w sb ob sz (chV C) mp dead) (hb : BAt w C bs) (hs : bs.length ≤ 512) (k : Nat) (hk : k < bs.length) :
    Calls Try.prog 16 #[.pointer (some ⟨ob, 0, none⟩), .int .i64 k] w fun r w' => r = .returned (.agg #[.int .u8 (bs.getD k bc0).v, .bool (bs.getD k bc0).s]) ∧ Fr (fun _ => False) w w' := by
  have o1 := h.o1
  have HF := Lib.hid (fr_al (Fr.refl (fun _ => False) w) (.cells #[.int .u8 0, .bool false] 58))
  have n1 := chunk_nil
  have n2 := chunk_not
  have n3 := cells_nil
  have n4 := cells_not
  have q1 : (k : Int).tdiv 512 = 0 := Int.tdiv_eq_zero_of_lt (by omega) (by omega)
  have q2 : (k : Int).tmod 512 = k := Int.tmod_eq_of_lt (by omega) (by omega)
  cases C with
  | none =>
    have e := hb k hk
    rw [e]
    unfold chV at o1
    have o1a : ∀ o : Obj, (w.alloc o).cell? ⟨ob, 1, none⟩ = some (.slice none 0 0) := fun o => (fr_al (Fr.refl (fun _ => False) w) o).cell o1 id
    clear h hb hs hk e
    go_enter Try.func16, Try.ntmps16
    go_wp2
    exact bodyPost_ret (v := .agg #[.int .u8 0, .bool false]) (by simp [results, Try.results16, go_sem]) rfl ⟨rfl, HF.out⟩
  | some D =>
    obtain ⟨c0, _, h3⟩ := hb
    obtain ⟨a0, a1, _, _⟩ := h3 k hk
    unfold chV at o1
    generalize bs.getD k bc0 = b at *
    have o1a : ∀ o : Obj, (w.alloc o).cell? ⟨ob, 1, none⟩ = some (.slice (some ⟨D.cb, 0, none⟩) 1 D.c1) := fun o => (fr_al (Fr.refl (fun _ => False) w) o).cell o1 id
    have c0a : ∀ o : Obj, (w.alloc o).cell? ⟨D.cb, 0, none⟩ = some (.slice (some ⟨D.kb, 0, none⟩) bs.length D.c2) := fun o => (fr_al (Fr.refl (fun _ => False) w) o).cell c0 id
    have a0a : ∀ o : Obj, (w.alloc o).cell? ⟨D.kb, k * 2, none⟩ = some (.int .u8 b.v) := fun o => (fr_al (Fr.refl (fun _ => False) w) o).cell a0 id
    have a1a : ∀ o : Obj, (w.alloc o).cell? ⟨D.kb, k * 2 + 1, none⟩ = some (.bool b.s) := fun o => (fr_al (Fr.refl (fun _ => False) w) o).cell a1 id
    have t0 : (0 : Int) ≤ k := by omega
    have t1 : (k : Int) < bs.length := by omega
    clear h h3 hs hk
    go_enter Try.func16, Try.ntmps16
    go_wp2
    exact bodyPost_ret (v := .agg #[.int .u8 b.v, .bool b.s]) (by simp [results, Try.results16, go_sem]) rfl ⟨rfl, fr_al (Fr.refl _ _) _⟩
theorem forget_of {w : World} {sb ob : Nat} {sz : Int} {ch : Value} {dead : Bool} (h : SAt w sb ob sz ch (.map none) dead) (k n : Int) (hk : 0 ≤ k ∧ k ≤ 1000000) (hn : 0 ≤ n ∧ n ≤ 1000000) :
    Calls Try.prog 13 #[.pointer (some ⟨ob, 0, none⟩), .int .i64 k, .int .i64 n] w fun r w' => r = .returned (.tuple #[]) ∧ w = w' := by
  have o2 := h.o2
  clear h
  go_enter Try.func13, Try.ntmps13
  go_wp2
  go_loopw [6] (fun q wl => ∃ i : Int, q = .int .i64 i ∧ i = k - 3 ∧ wl = w) (fun _ _ => 0)
  case atStart => exact ⟨_, rfl, by omega, rfl⟩
  case round =>
    obtain ⟨i, rfl, hi, rfl⟩ := hrel
    have t2 : decide (i < k + n) = true := decide_eq_true (by omega)
    clear hi
    go_wp2
    go_end0
    exact ⟨rfl, rfl⟩
end Go.Proofs.Ytonkfgjmienalaa
