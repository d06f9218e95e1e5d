/-
  Numbers as text: one, and a list of them, each behind a space.
-/
import Derived.Test.YtlagdgkjpnocfaaGreatDoorBldA
import Derived.Lib.LaidTab
import Derived.Lib.ItoaLen
import Derived.Laws.Concat
namespace Go.Proofs.YtlagdgkjpnocfaaGreatDoor
open Go.RowKit
set_option linter.unusedVariables false
set_option linter.unusedSimpArgs false
/-- The library's table of powers of ten lies where it should. -/
def TabW (w : World) : Prop := Lib.TabIs Tryz.prog w "internal/strconv.uint64pow10" .u64 Lib.pow10Tab
theorem gTab : Tryz.prog.globalNamed "internal/strconv.uint64pow10" = some 3 := by kernel_rfl
theorem TabW.lt {w : World} (h : TabW w) : 3 < w.heap.size := by
  have := h.cell gTab 0 (by decide)
  exact World.block_lt_of_cell? w _ this
theorem TabW.fr {F : Nat → Prop} {w w' : World} (h : TabW w) (hf : Fr F w w') (hn : ¬ F 3) : TabW w' := by
  have e := hf.block _ h.lt hn
  unfold TabW Lib.TabIs World.var? at *
  rw [gTab] at *
  simp only [Option.bind_some] at *
  rw [e]; exact h
theorem fr_grow (w : World) (k : Nat) (os : Array Obj) : Fr (fun _ => False) w (Go.Sort.grow (w.drewN k) os) :=
  ⟨rfl, rfl, by show w.heap.size ≤ (w.heap ++ os).size; rw [Array.size_append]; omega, fun j hj _ => by show (w.heap ++ os)[j]? = _; rw [Array.getElem?_append_left hj]⟩
theorem itoa_any (n : Int) (h0 : -9223372036854775808 ≤ n) (h1 : n ≤ 9223372036854775807) (w : World) (ht : TabW w) :
    Calls Tryz.prog 58 #[.int .i64 n] w fun e w' => e = .returned (.string ⟨(Lib.itoa n).toArray⟩) ∧ Fr (fun _ => False) w w' :=
  (Tryz.strconv_Itoa n h0 h1 w ht).mono fun e w' h => ⟨h.1, by obtain ⟨k, os, rfl⟩ := h.2; exact fr_grow w k os⟩
def numsL (l : List Int) : List UInt8 := l.flatMap fun x => 32 :: Lib.itoa x
theorem numsL_snoc (l : List Int) (x : Int) : numsL (l ++ [x]) = numsL l ++ (32 :: Lib.itoa x) := by simp [numsL]
theorem str_app (a b : List UInt8) : (ByteArray.mk a.toArray ++ ByteArray.mk b.toArray) = ByteArray.mk (a ++ b).toArray := by
  apply ByteArray.ext
  simp [ByteArray.data_append]
theorem numsL_len (l : List Int) (h : ∀ x ∈ l, -9223372036854775808 ≤ x ∧ x ≤ 9223372036854775807) : (numsL l).length ≤ 22 * l.length := by
  induction l with
  | nil => simp [numsL]
  | cons x l ih =>
    have h1 := Lib.itoa_length_le x (h x (by simp)).1 (h x (by simp)).2
    have h2 := ih (fun y hy => h y (by simp [hy]))
    have e : numsL (x :: l) = (32 :: Lib.itoa x) ++ numsL l := by simp [numsL]
    rw [e]; simp only [List.length_append, List.length_cons]; omega
/-- These numbers lie behind a slice's head. -/
def IntsAt (w : World) (a : Option Addr) (l : List Int) : Prop := ∀ k, k < l.length → ∃ g o, a = some ⟨g, o, none⟩ ∧ w.cell? ⟨g, o + k, none⟩ = some (.int .i64 (l.getD k 0))
theorem IntsAt.fr {w w' : World} {a : Option Addr} {l : List Int} (h : IntsAt w a l) (hf : Fr (fun _ => False) w w') : IntsAt w' a l := fun k hk => by
  obtain ⟨g, o, e, c⟩ := h k hk
  exact ⟨g, o, e, hf.cell c id⟩
def NumsP (l : List Int) (w : World) (e : Ending) (w' : World) : Prop := e = .returned (.string ⟨(numsL l).toArray⟩) ∧ Fr (fun _ => False) w w'
end Go.Proofs.YtlagdgkjpnocfaaGreatDoor
