/-
  Memories (layer 11): the walk of the law on what is gone.
-/
import Derived.Test.YtjogkmfbaamflaaStoP
import Derived.Deep.RegionHeld3
import Derived.Outline
namespace Go.Proofs.Ytjogkmfbaamflaa
open Go.RowKit
set_option linter.unusedVariables false
set_option linter.unusedSimpArgs false
theorem make_bytes (n : Nat) (hn : n ≤ 1000) (w : World) : (Instr.makeSlice 41 (.int .i64 n) (.int .i64 n)).run Try.prog w = .ok (.slice (some ⟨w.heap.size, 0, none⟩) n n) (w.alloc (.cells (Array.replicate n (.int .u8 0)) 5)) := by
  obtain ⟨i, hi, hz, hs, hb⟩ := info_parts (show (Try.prog.info? 5).map (fun i => (i.zero, i.size, i.bytes)) = some (some (.int .u8 0), 1, 1) by kernel_rfl)
  have := run_makeSlice (w := w) 41 5 i (.int .u8 0) Try.underlying41 hi hz .i64 .i64 n n (by omega) (Int.le_refl _) (by rw [hs]; omega) (by rw [hb]; omega) (by omega)
  have e : madeCells (Value.int IntKind.u8 0).cells (n * 1) = Array.replicate n (.int .u8 0) := by
    apply Array.ext'
    rw [show (Value.int IntKind.u8 0).cells = #[.int .u8 0] from rfl, toList_madeCells_one, Nat.mul_one]
    simp
  rw [hs, Int.toNat_natCast, e] at this
  exact this
/-- What is told and done once the object is made: all that the law asks. -/
theorem gone_fill {w : World} {sb ob db : Nat} {n : Nat} (h : MAt w sb ob none false (List.replicate n bc0)) (hn : 1 ≤ n ∧ n ≤ 300) (hdb : db ≠ ob) (hd : ∀ i, i < n → w.cell? ⟨db, i, none⟩ = some (.int .u8 0)) :
    Calls Try.prog 12 #[.pointer (some ⟨sb, 0, none⟩), .int .i64 1, .slice (some ⟨db, 0, none⟩) n n] w fun r w' => r = .returned (.int .i64 0) ∧ ∃ C', MAt w' sb ob C' false (fillB (List.replicate n bc0) n) ∧ Fr (fun j => j = ob) w w' := by
  have e : (List.replicate n bc0).length = n := List.length_replicate
  have := fill_zero h (by omega) (by omega) hdb (by rw [e]; exact hd)
  rw [e] at this
  exact this
theorem gone_load {w : World} {sb ob n at_ part : Nat} {C : Option Ch} (h : MAt w sb ob C false (fillB (List.replicate n bc0) n)) (hn : 1 ≤ n ∧ n ≤ 300) (hp : 1 ≤ part ∧ at_ + part ≤ n) :
    Calls Try.prog 11 #[.pointer (some ⟨sb, 0, none⟩), .agg #[.int .i64 1, .int .i64 at_, .int .i64 ((at_ : Int) + part), .int .i64 at_], .int .i64 1, .bool false] w fun r w' => (∃ u, r = .returned (.tuple #[.agg #[.int .u32 u, .int .i64 0, .int .i64 0, .int .i64 0, .int .i64 0, .bool false], .int .i64 0])) ∧ Fr (fun _ => False) w w' := by
  have e : (fillB (List.replicate n bc0) n).length = n := by rw [fillB_len, List.length_replicate]
  exact (load_set h (by omega) at_ ((at_ : Int) + part) at_ 1 (by decide) (by decide) (by omega) (Int.le_refl _) (by omega) (fun i hi => by rw [fillB_set _ n (by rw [List.length_replicate]; exact Nat.le_refl _) _ (by omega)])).mono fun r w' hr => ⟨⟨_, hr.1⟩, hr.2⟩
theorem gone_unset {w : World} {sb ob n at_ part : Nat} {C : Option Ch} (h : MAt w sb ob C false (List.replicate n bc0)) (hn : 1 ≤ n ∧ n ≤ 300) (hp : 1 ≤ part ∧ at_ + part ≤ n) :
    Calls Try.prog 11 #[.pointer (some ⟨sb, 0, none⟩), .agg #[.int .i64 1, .int .i64 at_, .int .i64 ((at_ : Int) + part), .int .i64 at_], .int .i64 1, .bool false] w fun r w' => r = .returned (.tuple #[.agg #[.int .u32 0, .int .i64 0, .int .i64 0, .int .i64 0, .int .i64 0, .bool false], .int .i64 13]) ∧ Fr (fun _ => False) w w' := by
  have e : (List.replicate n bc0).length = n := List.length_replicate
  exact load_unset h (by omega) at_ ((at_ : Int) + part) at_ 1 (by decide) (by decide) (by omega) (Int.le_refl _) (by omega) (by rw [List.getD_eq_getElem?_getD, List.getElem?_replicate, if_pos (by omega)]; rfl)
theorem gone_put {w : World} {sb ob n at_ part : Nat} {C : Option Ch} (h : MAt w sb ob C false (List.replicate n bc0)) (hn : 1 ≤ n ∧ n ≤ 300) (hp : 1 ≤ part ∧ at_ + part ≤ n) :
    Calls Try.prog 10 #[.pointer (some ⟨sb, 0, none⟩), .agg #[.int .i64 1, .int .i64 at_, .int .i64 ((at_ : Int) + part), .int .i64 at_], .int .i64 1, .agg #[.int .u32 9, .int .i64 0, .int .i64 0, .int .i64 0, .int .i64 0, .bool false]] w fun r w' => r = .returned (.int .i64 0) ∧ ∃ C' bs, MAt w' sb ob C' false bs ∧ Fr (fun j => j = ob ∨ Ch.has C j) w w' := by
  have e : (List.replicate n bc0).length = n := List.length_replicate
  exact (put_num h (by omega) at_ ((at_ : Int) + part) at_ 1 (by decide) (by decide) (by omega) (Int.le_refl _) (by omega) 9 0 0 0 0 (by decide) (by omega)).mono fun r w' hr => by
    obtain ⟨a, C', b, c, _⟩ := hr
    exact ⟨a, C', _, b, c⟩
end Go.Proofs.Ytjogkmfbaamflaa
