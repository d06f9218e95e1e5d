/-
  Listing (layer 6): the hexadecimal digits of a word.
-/
import Derived.Test.YtlagdgkjpnocfaaGreatDoorLsD
import Derived.Laws.IdiomStrings
import Derived.Laws.Slices
namespace Go.Proofs.YtlagdgkjpnocfaaGreatDoor
open Go.RowKit
set_option linter.unusedVariables false
set_option linter.unusedSimpArgs false
def dig (d : Nat) : UInt8 := UInt8.ofNat (if d < 10 then 48 + d else 87 + d)
def hexD (u : Nat) : List UInt8 := if u < 16 then [dig u] else hexD (u / 16) ++ [dig (u % 16)]
termination_by u
decreasing_by omega
theorem hexD_lo {u : Nat} (h : u < 16) : hexD u = [dig u] := by rw [hexD, if_pos h]
theorem hexD_hi {u : Nat} (h : 16 ≤ u) : hexD u = hexD (u / 16) ++ [dig (u % 16)] := by rw [hexD, if_neg (by omega)]
theorem hexD_pos (u : Nat) : 0 < (hexD u).length := by
  by_cases h : u < 16
  · rw [hexD_lo h]; simp
  · rw [hexD_hi (by omega)]; simp
theorem hexD_len : ∀ k u : Nat, 0 < k → u < 16 ^ k → (hexD u).length ≤ k
  | 0, _, h, _ => by omega
  | k + 1, u, _, h => by
    by_cases hu : u < 16
    · rw [hexD_lo hu]; simp
    · rw [hexD_hi (by omega), List.length_append]
      have hk : 0 < k := by
        rcases Nat.eq_zero_or_pos k with e | e
        · subst e; simp at h; omega
        · exact e
      have := hexD_len k (u / 16) hk (by rw [Nat.pow_succ] at h; omega)
      simp
      omega
abbrev DIG : ByteArray := ⟨#[48, 49, 50, 51, 52, 53, 54, 55, 56, 57, 97, 98, 99, 100, 101, 102, 103, 104, 105, 106, 107, 108, 109, 110, 111, 112, 113, 114, 115, 116, 117, 118, 119, 120, 121, 122]⟩
theorem ix_dig (w : World) (d : Nat) (h : d < 16) : (Instr.index 9 (.string DIG) (.int .u64 (d : Int))).run Tryz.prog w = .ok (.int .u8 ((dig d).toNat : Int)) w := by
  have : d = 0 ∨ d = 1 ∨ d = 2 ∨ d = 3 ∨ d = 4 ∨ d = 5 ∨ d = 6 ∨ d = 7 ∨ d = 8 ∨ d = 9 ∨ d = 10 ∨ d = 11 ∨ d = 12 ∨ d = 13 ∨ d = 14 ∨ d = 15 := by omega
  rcases this with rfl | rfl | rfl | rfl | rfl | rfl | rfl | rfl | rfl | rfl | rfl | rfl | rfl | rfl | rfl | rfl <;> simp [go_sem, dig] <;> rfl
theorem al_65 (w : World) : (Instr.alloc 157 true (.tuple #[])).run Tryz.prog w = .ok (.pointer (some ⟨w.heap.size, 0, none⟩)) (w.alloc (.cells (Array.replicate 65 (.int .u8 0)) 157)) := by kernel_rfl
theorem and_15 {m : Int} (h0 : 0 ≤ m) (h1 : m < 18446744073709551616) : bits .and .u64 m 15 = m % 16 := by
  obtain ⟨n, rfl⟩ : ∃ n : Nat, m = (n : Int) := ⟨m.toNat, by omega⟩
  have e : n &&& 15 = n % 16 := Nat.and_two_pow_sub_one_eq_mod n 4
  have b : (BitVec.ofInt 64 (n : Int) &&& BitVec.ofInt 64 15).toNat = n % 16 := by
    rw [BitVec.toNat_and]
    have e1 : (BitVec.ofInt 64 (n : Int)).toNat = n := by
      rw [BitVec.toNat_ofInt]
      omega
    have e2 : (BitVec.ofInt 64 15).toNat = 15 := by decide
    rw [e1, e2, e]
  show IntKind.u64.wrap (((BitVec.ofInt 64 (n : Int) &&& BitVec.ofInt 64 15).toNat : Nat) : Int) = _
  rw [b]
  have hw : IntKind.u64.wrap (((n % 16 : Nat)) : Int) = ((n % 16 : Nat) : Int) := IntWalk.u64_in _ (by omega)
  rw [hw]
  omega
section
variable (w : World) (x y : Operand) (m n : Int)
theorem bn_and15 (h0 : 0 ≤ m) (h1 : m < 18446744073709551616) : (do eqGuard .and 113 x y (.int .u64 m) (.int .u64 15); binOp .and 113 (.int .u64 m) (.int .u64 15) : Sem Value).run Tryz.prog w = .ok (.int .u64 (m % 16)) w := by
  rw [← and_15 h0 h1]; simp [go_sem]
theorem bn_shr4 : (do eqGuard .shr 85 x y (.int .u64 m) (.int .u64 4); binOp .shr 85 (.int .u64 m) (.int .u64 4) : Sem Value).run Tryz.prog w = .ok (.int .u64 (m / 16)) w := by simp [go_sem]
theorem bn_ge64 : (do eqGuard .geq 85 x y (.int .u64 m) (.int .u64 n); binOp .geq 85 (.int .u64 m) (.int .u64 n) : Sem Value).run Tryz.prog w = .ok (.bool (decide (n ≤ m))) w := by simp [go_sem]
theorem bn_subi (h0 : -9223372036854775808 ≤ m - n) (h1 : m - n ≤ 9223372036854775807) : (do eqGuard .sub 3 x y (.int .i64 m) (.int .i64 n); binOp .sub 3 (.int .i64 m) (.int .i64 n) : Sem Value).run Tryz.prog w = .ok (.int .i64 (m - n)) w := by
  have h : IntKind.i64.wrap (m - n) = m - n := IntWalk.i64_in _ (by omega)
  simp [go_sem, h]
theorem bn_lti : (do eqGuard .lss 3 x y (.int .i64 m) (.int .i64 n); binOp .lss 3 (.int .i64 m) (.int .i64 n) : Sem Value).run Tryz.prog w = .ok (.bool (decide (m < n))) w := by simp [go_sem]
theorem bn_gti : (do eqGuard .gtr 3 x y (.int .i64 m) (.int .i64 n); binOp .gtr 3 (.int .i64 m) (.int .i64 n) : Sem Value).run Tryz.prog w = .ok (.bool (decide (n < m))) w := by simp [go_sem]
theorem bn_subu : (do eqGuard .sub 113 x y (.int .u64 16) (.int .u64 1); binOp .sub 113 (.int .u64 16) (.int .u64 1) : Sem Value).run Tryz.prog w = .ok (.int .u64 15) w := by
  have h : IntKind.u64.wrap 15 = 15 := by decide
  simp [go_sem, h]
theorem cv_iu (h0 : 0 ≤ m) (h1 : m < 18446744073709551616) : (convert 3 113 (.int .i64 m)).run Tryz.prog w = .ok (.int .u64 m) w := by
  have h : IntKind.u64.wrap m = m := IntWalk.u64_in _ (by omega)
  simp [go_sem, h]
theorem cv_iu64 (h0 : 0 ≤ m) (h1 : m < 18446744073709551616) : (convert 3 85 (.int .i64 m)).run Tryz.prog w = .ok (.int .u64 m) w := by
  have h : IntKind.u64.wrap m = m := IntWalk.u64_in _ (by omega)
  simp [go_sem, h]
theorem cv_u8i : (convert 5 3 (.int .u8 4)).run Tryz.prog w = .ok (.int .i64 4) w := by
  have h : IntKind.i64.wrap 4 = 4 := by decide
  simp [go_sem, h]
end
theorem WL.cv {P : Program} {ops : Array Oper} {N : Nat} {Q : Exit → Act → World → Prop} {s : List (Nat × Value)} {l : List Oper} {o : Oper} {d : Nat} {w w' : World} {t t' : TypeId} {x : Operand} {u v : Value} (hop : o.op = .convert t t' x) (hd : o.dst = some d) (hN : Nat.blt d N = true) (hg : gd ops s o = some true) (hu : ev s x = some u) (hr : (convert t t' u).run P w = .ok v w') (h : WL P ops N Q ((d, v) :: s) l w') : WL P ops N Q s (o :: l) w :=
  WL.run hd hN hg (fun a k => by
    have h1 := k.eval hu
    unfold execOp
    rw [hop]
    simp only [h1, Sem.run_bind, hr, Result.andThen_ok, Sem.run_pure]) h
theorem WL.ix {P : Program} {ops : Array Oper} {N : Nat} {Q : Exit → Act → World → Prop} {s : List (Nat × Value)} {l : List Oper} {o : Oper} {d : Nat} {w w' : World} {t : TypeId} {x y : Operand} {u i v : Value} (hop : o.op = .index t x y) (hd : o.dst = some d) (hN : Nat.blt d N = true) (hg : gd ops s o = some true) (hu : ev s x = some u) (hi : ev s y = some i) (hr : (Instr.index t u i).run P w = .ok v w') (h : WL P ops N Q ((d, v) :: s) l w') : WL P ops N Q s (o :: l) w :=
  WL.run hd hN hg (fun a k => by
    have h1 := k.eval hu
    have h2 := k.eval hi
    unfold execOp
    rw [hop]
    simp only [h1, h2, Sem.run_bind, hr, Result.andThen_ok, Sem.run_pure]) h
theorem cf_ip2 (w : World) (vs : Array Value) : (callFunc 136 vs).run Tryz.prog w = .ok (.enter 136 vs) w := by simp [go_sem]
theorem cf_tz (w : World) (vs : Array Value) : (callFunc 137 vs).run Tryz.prog w = .ok (.enter 137 vs) w := by simp [go_sem]
theorem t_ip2 (w : World) : Calls Tryz.prog 136 #[.int .i64 16] w fun e w' => e = .returned (.bool true) ∧ w = w' := by
  go_enter Tryz.func136, Tryz.ntmps136
  go_wp2
  go_ret
  refine ⟨?_, rfl⟩
  show Ending.returned (.bool (bits .and .i64 16 15 == 0)) = _
  rw [show (bits BinOp.and IntKind.i64 16 15 == 0) = true by decide]
end Go.Proofs.YtlagdgkjpnocfaaGreatDoor
