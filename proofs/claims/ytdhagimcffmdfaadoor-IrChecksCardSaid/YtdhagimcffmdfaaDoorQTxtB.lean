/-
  A number as text, by the library: FormatUint at base 10, any number.
-/
import Derived.Test.YtdhagimcffmdfaaDoorQBldF
import Derived.Lib.ItoaMem
namespace Go.Proofs.YtdhagimcffmdfaaDoor
open Go.RowKit Go.Sort
set_option linter.unusedVariables false
set_option linter.unusedSimpArgs false
theorem hold0 (w : World) (T : TypeId) (nd : Nat) (hs : nd ≤ 24) : Holds (fun (b : UInt8) => Value.int .u8 (b.toNat : Int)) (w.alloc (.cells Lib.zeros24 T)) w.heap.size 0 (Array.replicate nd (0 : UInt8)) := by
  intro j hj
  have hj' : j < nd := by simpa using hj
  refine ⟨?_, World.frozen?_alloc_new _ _ _ _⟩
  rw [World.cell?_alloc_new, Lib.zeros24_at _ (by omega), getElem!_pos _ j hj]
  simp
theorem fr_row (w : World) (o : Obj) (dk : Array UInt8) (k : Nat) : Fr (fun _ => False) w ((putRow (fun (b : UInt8) => Value.int .u8 (b.toNat : Int)) (w.alloc o) w.heap.size 0 dk).drewN k) := by
  rw [alloc_eq_grow]
  obtain ⟨os', _, e⟩ := putRow_grow_new (fun (b : UInt8) => Value.int .u8 (b.toNat : Int)) w #[o] w.heap.size 0 dk (Nat.le_refl _)
  rw [e]
  exact fr_grow w k os'
set_option maxRecDepth 100000 in
set_option maxHeartbeats 6400000 in
theorem ifmtu_big (u : Nat) (h1 : 100 ≤ u) (h2 : u < 18446744073709551616) (w : World) (ht : TabW w) : Calls Tryd.prog 69 #[.int .u64 u, .int .i64 10] w fun e w' => e = .returned (.string ⟨(Lib.decDigits u).toArray⟩) ∧ Fr (fun _ => False) w w' := by
  have hnd : Lib.nDigits u ≤ 20 := by have := Lib.numDigits_eq u (by omega) h2; split at this <;> omega
  obtain ⟨N, hN⟩ : ∃ N, Lib.nDigits u = N := ⟨_, rfl⟩
  have hl := Lib.decDigits_length u
  have hA : Tryd.prog.arrayLen 104 = 24 := by kernel_rfl
  have hsl : ∀ W, (Instr.sliceAt 104 (.pointer (some ⟨w.heap.size, 0, none⟩)) none (some (.int .i64 (N : Int))) none).run Tryd.prog W = .ok (.slice (some ⟨w.heap.size, 0, none⟩) N 24) W := fun W => by
    rw [run_sliceAt_array_h W 104 ⟨w.heap.size, 0, none⟩ (by kernel_rfl) .i64 (N : Int) (by omega) (by rw [hA]; omega), hA]
    rw [show Tryd.prog.elem 104 = 5 by kernel_rfl]
    simp [Tryd.sizeOf5, slicedAt, Result.andThen, Addr.add]
  have hH := hold0 w 104 N (by omega)
  have hfm := Tryd.internal_strconv_formatBase10 w.heap.size 0 24 u (Array.replicate N 0) (w.alloc (.cells Lib.zeros24 104)) hH (by rw [Array.size_replicate, ← hN]; exact Lib.lt_pow_nDigits u) h2 (by rw [Array.size_replicate]; omega)
  rw [Array.size_replicate] at hfm
  have hcv : ∀ (k v' : Nat) (dk : Array UInt8), Lib.FmtInv N u 0 v' dk → (convert 55 9 (.slice (some ⟨w.heap.size, 0, none⟩) N 24)).run Tryd.prog ((putRow (fun (b : UInt8) => Value.int .u8 (b.toNat : Int)) (w.alloc (.cells Lib.zeros24 104)) w.heap.size 0 dk).drewN k) = .ok (.string ⟨(Lib.decDigits u).toArray⟩) ((putRow (fun (b : UInt8) => Value.int .u8 (b.toNat : Int)) (w.alloc (.cells Lib.zeros24 104)) w.heap.size 0 dk).drewN k) := fun k v' dk hF => by
    subst hN
    have q := run_convert_bytes_back (P := Tryd.prog) ((putRow (fun (b : UInt8) => Value.int .u8 (b.toNat : Int)) (w.alloc (.cells Lib.zeros24 104)) w.heap.size 0 dk).drewN k) 55 9 5 ⟨w.heap.size, 0, none⟩ 24 (Lib.decDigits u) Tryd.underlying55 Tryd.underlying5 Tryd.underlying9 (fun j hj => by
      rw [Lib.row_is_numeral hF j hj, Lib.add_plain, World.cell?_drewN]
      exact cell?_putRow (fun (b : UInt8) => Value.int .u8 (b.toNat : Int)) _ w.heap.size 0 _ dk hH (by rw [hF.size, Array.size_replicate]) j (by rw [hF.size, ← Lib.decDigits_length]; exact hj))
    rw [Lib.decDigits_length] at q
    exact q
  have HCV := Lib.hid hcv
  have HFR := Lib.hid (fun dk k => fr_row w (.cells Lib.zeros24 104) dk k)
  clear hcv
  unfold Lib.zeros24 at HCV HFR
  unfold Lib.zeros24 at hfm hH
  have hnm : ∀ W, TabW W → Calls Tryd.prog 75 #[.int .u64 u] W fun e w' => e = .returned (.int .i64 (Lib.nDigits u)) ∧ w' = W := fun W ht => Tryd.internal_strconv_numDigits u (by omega) h2 W ht
  rw [hN] at hnm hnd hl
  have HH := Lib.hid hH
  have HN := Lib.hid hN
  have HT := Lib.hid ht
  have HL := Lib.hid hl
  have HNM := Lib.hid hnm
  have HFM := Lib.hid hfm
  clear hH hN ht hl hA hnm hfm
  go_enter Tryd.func69, Tryd.ntmps69
  go_wp2_with (first
    | (go_at_call 75; (with_reducible refine (HNM.out _ (HT.out.fr (fr_al (Fr.refl (fun _ => False) _) _) id)).mono ?_); rintro e w' ⟨rfl, rfl⟩)
    | (go_at_call 76; (with_reducible refine HFM.out.mono ?_); rintro e w' ⟨rfl, k, v', dk, rfl, hF⟩; have hcv := HCV.out k v' dk hF; have HG := Lib.hid (HFR.out dk k); clear hF))
  go_ret
  exact ⟨rfl, HG.out⟩
theorem fmtu_any (u : Nat) (h2 : u < 18446744073709551616) (w : World) (ht : TabW w) : Calls Tryd.prog 57 #[.int .u64 u, .int .i64 10] w fun e w' => e = .returned (.string ⟨(Lib.decDigits u).toArray⟩) ∧ Fr (fun _ => False) w w' := by
  by_cases h : u < 100
  · exact fmtu_small u h w
  · have HC := Lib.hid (ifmtu_big u (by omega) h2 w ht)
    clear ht
    go_enter Tryd.func57, Tryd.ntmps57
    go_wp2_with (go_at_call 69; (with_reducible refine HC.out.mono ?_); rintro e w2 ⟨rfl, hf⟩; have HF := Lib.hid hf; clear hf)
    go_ret
    exact ⟨rfl, HF.out⟩
end Go.Proofs.YtdhagimcffmdfaaDoor
