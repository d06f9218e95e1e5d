/-
  Items (layer 5): the contract of branches.
-/
import Derived.Test.YtnjlcimeaoedcaaQAsmC
namespace Go.Proofs.Ytnjlcimeaoedcaa
open Go.RowKit
set_option linter.unusedVariables false
set_option linter.unusedSimpArgs false
/-- The branches among the first k items. -/
def brK (l : List It) (k : Nat) : List Int := ((List.range k).filter (isBr l)).map (fun j : Nat => (j : Int))
theorem brK_succ (l : List It) (k : Nat) : brK l (k + 1) = if isBr l k = true then brK l k ++ [(k : Int)] else brK l k := by
  unfold brK
  rw [List.range_succ, List.filter_append]
  cases h : isBr l k <;> simp [h]
theorem brK_len (l : List It) (k : Nat) : (brK l k).length ≤ k := by
  unfold brK; simp only [List.length_map]; exact Nat.le_trans (List.length_filter_le _ _) (by simp)
def natsI (l : List Nat) : List Int := l.map (fun k : Nat => (k : Int))
theorem brK_end (l : List It) : brK l l.length = natsI (nearF l (fun _ => false)) := by
  unfold brK natsI nearF; simp
/-- What a call leaves that answers a list of numbers. -/
def NumP (xs : List Int) (w : World) (e : Ending) (w' : World) : Prop := ∃ v, e = .returned v ∧ NumAt w.heap.size w' v xs ∧ Fr (fun _ => False) w w'
/-- A list of numbers that grows, between rounds. -/
structure Gro (w wr : World) (v : Value) (xs : List Int) : Prop where
  num : NumAt w.heap.size wr v xs
  fr : Fr (fun _ => False) w wr
theorem Gro.keep {w wr w2 : World} {v : Value} {xs : List Int} (h : Gro w wr v xs) (hf : Fr (fun _ => False) wr w2) : Gro w w2 v xs :=
  ⟨hf.owns h.num (fun _ _ => id), h.fr.trans hf⟩
theorem Gro.snoc {w wr w1 w2 : World} {v v' : Value} {xs : List Int} {x : Int} (h : Gro w wr v xs) (hf : Fr (fun _ => False) wr w1) (hv : w2.ownsRow w.heap.size 3 1 v' (xs.length + 1) (ints xs ++ [.int .i64 x])) (hg : w1.grownBy w2 v.ownBlock) : Gro w w2 v' (xs ++ [x]) := by
  refine ⟨by unfold NumAt; rw [ints_snoc]; simpa using hv, ?_⟩
  refine (h.fr.trans hf).trans' (Fr.of_by hg) (fun j hj e => ?_)
  have := (World.ownsRow.lt h.num j e).1
  omega
theorem one_cell (w : World) (t : TypeId) (x : Value) : ∀ (j : Nat) (u : Value), [x][j]? = some u → (w.alloc (.cells #[x] t)).cell? ((⟨w.heap.size, 0, none⟩ : Addr).add j) = some u := by
  intro j u h
  match j, h with
  | 0, h => rw [Addr.add_lit]; exact row_cell w #[x] t 0 u (by simpa using h)
  | n + 1, h => simp at h
set_option maxRecDepth 100000 in
set_option maxHeartbeats 8000000 in
theorem c41 (a : Option Addr) (n c : Nat) (l : List It) (hn : n = l.length) (hfew : n ≤ 32768) (w : World) (hat : ItAt w.heap.size w a l) :
    Calls Try.prog 41 #[.slice a n c] w (NumP (natsI (nearF l (fun _ => false))) w) := by
  obtain ⟨i0, hi, hz0, hz1, hz2⟩ := info_parts infoI
  have HI := Lib.hid hi
  have HZ0 := Lib.hid hz0
  have HZ1 := Lib.hid hz1
  have HZ2 := Lib.hid hz2
  clear hi hz0 hz1 hz2
  have HA := Lib.hid hat
  have HN := Lib.hid hn
  clear hat hn
  have H0 : Hid (Gro w w (.slice none 0 0) (brK l 0)) := Lib.hid ⟨World.ownsRow_nil _ _ _ _, Fr.refl _ _⟩
  go_enter Try.func41, Try.ntmps41
  go_wp2
  go_loopw [3, 8] (fun v i wr => ∃ k : Nat, i = .int .i64 k ∧ k ≤ n ∧ Hid (Gro w wr v (brK l k))) (fun _ i _ => n - (intOf i).toNat)
  case atStart => exact ⟨0, rfl, Nat.zero_le _, H0⟩
  case round =>
    obtain ⟨k, rfl, hk, HW⟩ := hrel
    clear H0
    by_cases hlt : k < n
    · obtain ⟨x, hx⟩ : ∃ x, l.getD k it0 = x := ⟨_, rfl⟩
      obtain ⟨g, o, rfl, hg, c0, c1, c2, c3, c4, c5, c6⟩ := HA.out.get HW.out.fr (fun _ h => h.elim) k (by rw [← HN.out]; exact hlt) x hx
      have F1 : Hid (Fr (fun _ => False) wr (wr.alloc (.cells #[.int .i64 x.k, .int .i64 x.op, .int .i64 x.rd, .int .i64 x.r1, .int .i64 x.r2, .int .i64 x.imm, .int .i64 x.lab] 40))) := Lib.hid (fr_al (Fr.refl _ _) _)
      have hlen := brK_len l k
      have hsz := HW.out.fr.size
      by_cases e : x.k = 3
      · have hv : Hid (brK l (k + 1) = brK l k ++ [(k : Int)]) := Lib.hid (by rw [brK_succ, if_pos (by unfold isBr; rw [hx, e]; rfl)])
        rw [e] at c0 F1
        clear e hx
        go_wp2_with (at_builtin; refine wpList_append_own _ rfl _ _ 26 rfl w.heap.size 3 i0 (.int .i64 0) 1 8 Try.underlying26 HI.out HZ0.out HZ1.out HZ2.out rfl (by decide) _ (brK l k).length (ints (brK l k)) rfl (by exact ((HW.out.keep F1.out).num.alloc _)) ⟨wr.heap.size + 1, 0, none⟩ 1 1 [.int .i64 (k : Int)] rfl rfl (by have := one_cell (wr.alloc (.cells #[.int .i64 3, .int .i64 x.op, .int .i64 x.rd, .int .i64 x.r1, .int .i64 x.r2, .int .i64 x.imm, .int .i64 x.lab] 40)) 3 (.int .i64 (k : Int)); simpa using this) (by simp [Value.oneCell']) (by unfold maxLen; omega) (by omega) (by simp; omega) ?_; intro v' w3 hown3 hg3 _; have HR3 := Lib.hid (Gro.snoc HW.out (fr_al F1.out _) hown3 hg3); rw [← hv.out] at HR3; clear hown3 hg3)
        go_roundw
        case rel => exact ⟨k + 1, by go_num, by omega, HR3⟩
        case measure => simp [intOf]; omega
      · have hv : Hid (brK l (k + 1) = brK l k) := Lib.hid (by rw [brK_succ, if_neg (by unfold isBr; rw [hx]; simpa using e)])
        have t3 : (x.k == 3) = false := by simpa using e
        clear e hx
        go_wp2
        go_roundw
        case rel => exact ⟨k + 1, by go_num, by omega, Lib.hid (by rw [hv.out]; exact HW.out.keep F1.out)⟩
        case measure => simp [intOf]; omega
    · obtain rfl : n = k := by omega
      have hE : Hid (brK l n = natsI (nearF l (fun _ => false))) := Lib.hid (by rw [HN.out]; exact brK_end l)
      go_wp2
      go_ret
      exact ⟨_, rfl, by rw [← hE.out]; exact HW.out.num, HW.out.fr⟩
end Go.Proofs.Ytnjlcimeaoedcaa
