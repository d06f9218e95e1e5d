/-
  A number as text (layer 6's Num), the document's own. Listing (layer 6): the document's line.
-/
import Derived.Test.YtlagdgkjpnocfaaGreatDoorQLsA
import Derived.Test.YtlagdgkjpnocfaaGreatDoorQAwake
import Derived.Test.YtlagdgkjpnocfaaGreatDoorQLsP
namespace Go.Proofs.YtlagdgkjpnocfaaGreatDoor
open Go.RowKit
set_option linter.unusedVariables false
set_option linter.unusedSimpArgs false
theorem digit_of (r : Nat) (h : r < 10) : (⟨#[48, 49, 50, 51, 52, 53, 54, 55, 56, 57]⟩ : ByteArray).extract r (r + 1) = ⟨#[UInt8.ofNat (48 + r)]⟩ := by
  have : ∀ r : Fin 10, (⟨#[48, 49, 50, 51, 52, 53, 54, 55, 56, 57]⟩ : ByteArray).extract r.1 (r.1 + 1) = ⟨#[UInt8.ofNat (48 + r.1)]⟩ := by decide
  exact this ⟨r, h⟩
theorem dec_step {m : Nat} (h : 10 ≤ m) : Lib.decDigits m = Lib.decDigits (m / 10) ++ [UInt8.ofNat (48 + m % 10)] := by
  rw [Lib.decDigits, dif_neg (by omega)]
theorem dec_len (u : Nat) (hu : u ≤ 9223372036854775807) : (Lib.decDigits u).length ≤ 21 := by
  have := Lib.itoa_length_le u (by omega) (by omega)
  rwa [Lib.itoa_nonneg] at this
/-- What is written so far, with m still to be written. -/
def NumS (u m : Nat) (s : List UInt8) : Prop := (0 < m → Lib.decDigits u = Lib.decDigits m ++ s) ∧ (m = 0 → s = Lib.decDigits u)
theorem NumS.start (u : Nat) : NumS u (u / 10) [UInt8.ofNat (48 + u % 10)] := by
  by_cases h : u < 10
  · refine ⟨fun h2 => absurd h2 (by omega), fun _ => ?_⟩
    rw [Lib.decDigits_one h, Nat.mod_eq_of_lt h]
  · exact ⟨fun _ => dec_step (by omega), fun h2 => absurd h2 (by omega)⟩
theorem NumS.next {u m : Nat} {s : List UInt8} (h : NumS u m s) (hm : 0 < m) : NumS u (m / 10) (UInt8.ofNat (48 + m % 10) :: s) := by
  have e := h.1 hm
  by_cases h10 : m < 10
  · refine ⟨fun h2 => absurd h2 (by omega), fun _ => ?_⟩
    rw [e, Lib.decDigits_one h10, Nat.mod_eq_of_lt h10]
    rfl
  · refine ⟨fun _ => ?_, fun h2 => absurd h2 (by omega)⟩
    rw [e, dec_step (by omega), List.append_assoc]
    rfl
theorem NumS.len {u m : Nat} {s : List UInt8} (h : NumS u m s) (hu : u ≤ 9223372036854775807) : s.length ≤ 21 := by
  have hl := dec_len u hu
  by_cases hm : 0 < m
  · rw [h.1 hm, List.length_append] at hl; omega
  · rw [h.2 (by omega)]; exact hl
theorem slice_dig (r : Nat) (h : r < 10) (w : World) : (Instr.slice 9 (.string ⟨#[48, 49, 50, 51, 52, 53, 54, 55, 56, 57]⟩) (some (.int .i64 (r : Int))) (some (.int .i64 ((r : Int) + 1))) none).run Tryz.prog w = .ok (.string ⟨#[UInt8.ofNat (48 + r)]⟩) w := by
  rw [run_slice_string w 9 _ _ _ _ _ Tryz.underlying9 (by omega) (by omega) (by show (r : Int) + 1 ≤ 10; omega)]
  rw [show (r : Int).toNat = r by omega, show ((r : Int) + 1).toNat = r + 1 by omega, digit_of r h]
theorem str_cons (c : UInt8) (s : List UInt8) : (⟨#[c]⟩ : ByteArray) ++ ⟨s.toArray⟩ = ⟨(c :: s).toArray⟩ := by
  rw [show (⟨#[c]⟩ : ByteArray) = ⟨[c].toArray⟩ from rfl, str_app]
  rfl
set_option maxRecDepth 100000 in
set_option maxHeartbeats 4000000 in
theorem num_pos (u : Nat) (hu : u ≤ 9223372036854775807) (w : World) : Calls Tryz.prog 24 #[.int .i64 u] w fun e w' => e = .returned (.string ⟨(Lib.decDigits u).toArray⟩) ∧ w' = w := by
  have hs : ∀ w : World, (Instr.slice 9 (.string ⟨#[48, 49, 50, 51, 52, 53, 54, 55, 56, 57]⟩) (some (.int .i64 ((u : Int) % 10))) (some (.int .i64 ((u : Int) % 10 + 1))) none).run Tryz.prog w = .ok (.string ⟨#[UInt8.ofNat (48 + u % 10)]⟩) w := fun w => by
    have := slice_dig (u % 10) (Nat.mod_lt _ (by decide)) w
    simpa using this
  have H0 := Lib.hid (NumS.start u)
  obtain ⟨d0, hd0⟩ : ∃ d, (⟨#[UInt8.ofNat (48 + u % 10)]⟩ : ByteArray) = d := ⟨_, rfl⟩
  rw [hd0] at hs
  have HD := Lib.hid hd0
  clear hd0
  go_enter Tryz.func24, Tryz.ntmps24
  go_wp2
  go_loopw [4, 5] (fun v q wr => ∃ (m : Nat) (s : List UInt8), v = .string ⟨s.toArray⟩ ∧ q = .int .i64 m ∧ m ≤ u ∧ wr = w ∧ Hid (NumS u m s)) (fun _ q _ => (intOf q).toNat)
  case atStart => exact ⟨u / 10, [UInt8.ofNat (48 + u % 10)], by rw [← HD.out], by simp, Nat.div_le_self _ _, rfl, H0⟩
  case round =>
    obtain ⟨m, s, rfl, rfl, hm, rfl, HW⟩ := hrel
    by_cases hp : 0 < m
    · have hs2 : ∀ w : World, (Instr.slice 9 (.string ⟨#[48, 49, 50, 51, 52, 53, 54, 55, 56, 57]⟩) (some (.int .i64 ((m : Int) % 10))) (some (.int .i64 ((m : Int) % 10 + 1))) none).run Tryz.prog w = .ok (.string ⟨#[UInt8.ofNat (48 + m % 10)]⟩) w := fun w => by
        have := slice_dig (m % 10) (Nat.mod_lt _ (by decide)) w
        simpa using this
      have HV := Lib.hid (HW.out.next hp)
      have hl := HW.out.len hu
      have HC := Lib.hid (str_cons (UInt8.ofNat (48 + m % 10)) s)
      obtain ⟨S, hS⟩ : ∃ S : ByteArray, (⟨s.toArray⟩ : ByteArray) = S := ⟨_, rfl⟩
      have hl2 : S.size ≤ 21 := by rw [← hS]; exact hl
      obtain ⟨d1, hd1⟩ : ∃ d, (⟨#[UInt8.ofNat (48 + m % 10)]⟩ : ByteArray) = d := ⟨_, rfl⟩
      have hl3 : d1.size = 1 := by rw [← hd1]; rfl
      rw [hS, hd1] at HC
      rw [hd1] at hs2
      rw [hS]
      clear hl hd1 hS
      go_wp2
      go_roundw
      case rel => exact ⟨m / 10, UInt8.ofNat (48 + m % 10) :: s, by rw [HC.out], by simp, by omega, trivial, HV⟩
      case measure => simp [intOf]; omega
    · have e := Lib.hid (HW.out.2 (by omega))
      have hz1 : decide (0 < m) = false := decide_eq_false hp
      have hz2 : decide ((0 : Int) < (m : Int)) = false := decide_eq_false (by omega)
      have hz3 : ¬ (0 : Int) < (m : Int) := by omega
      go_wp2
      go_ret
      exact ⟨by rw [e.out]; rfl, rfl⟩
set_option maxRecDepth 100000 in
set_option maxHeartbeats 4000000 in
/-- Any number as text. -/
theorem num_any (n : Int) (h0 : -9223372036854775807 ≤ n) (h1 : n ≤ 9223372036854775807) (w : World) : Calls Tryz.prog 24 #[.int .i64 n] w fun e w' => e = .returned (.string ⟨(Lib.itoa n).toArray⟩) ∧ w' = w := by
  by_cases hn : n < 0
  · obtain ⟨u, hu⟩ : ∃ u : Nat, n = -(u : Int) := ⟨n.natAbs, by omega⟩
    subst hu
    have hu1 : 1 ≤ u := by omega
    have HP := Lib.hid (num_pos u (by omega))
    have hl := dec_len u (by omega)
    have HC := Lib.hid (str_cons 45 (Lib.decDigits u))
    rw [Lib.itoa_neg u hu1]
    obtain ⟨S, hS⟩ : ∃ S : ByteArray, (⟨(Lib.decDigits u).toArray⟩ : ByteArray) = S := ⟨_, rfl⟩
    have hl2 : S.size ≤ 21 := by rw [← hS]; exact hl
    rw [hS] at HC HP
    have HE := Lib.hid HC.out.symm
    clear hl hS HC
    have hng : IntKind.i64.wrap (-(-(u : Int))) = (u : Int) := by rw [Int.neg_neg]; exact IntWalk.i64_in _ (by omega)
    go_enter Tryz.func24, Tryz.ntmps24
    go_wp2_with (go_at_call 24; (with_reducible refine (HP.out _).mono ?_); rintro e w2 ⟨rfl, rfl⟩)
    go_ret
    exact ⟨by rw [HE.out]; rfl, rfl⟩
  · obtain ⟨u, rfl⟩ : ∃ u : Nat, n = (u : Int) := ⟨n.toNat, by omega⟩
    rw [Lib.itoa_nonneg]
    exact num_pos u (by omega) w
theorem qx_rushlightref02_Inst (w : World) (u0 u1 u2 u3 u4 : Value) : (Instr.box 28 (.agg #[u0, u1, u2, u3, u4])).run Tryz.prog w = .ok (.pointer (some ⟨w.heap.size, 0, none⟩)) (w.alloc (.cells #[u0, u1, u2, u3, u4] 28)) := by simp [go_sem]
theorem qa_rushlightref02_Inst_0 (w : World) (b o : Nat) : (Instr.fieldAt 28 (.pointer (some ⟨b, o, none⟩)) 0).run Tryz.prog w = .ok (.pointer (some ⟨b, o, none⟩)) w := by simp [go_sem]
theorem ql_int (w : World) (m : Int) (d : Addr) (h : w.cell? d = some (.int .i64 m)) : (Instr.loadAt 3 (.pointer (some d))).run Tryz.prog w = .ok (.int .i64 m) w := by simp [go_sem, h]
theorem qk_rushlightref02_Name (w : World) (vs : Array Value) : (callFunc 23 vs).run Tryz.prog w = .ok (.enter 23 vs) w := by simp [go_sem]
theorem qa_rushlightref02_Inst_1 (w : World) (b o : Nat) : (Instr.fieldAt 28 (.pointer (some ⟨b, o, none⟩)) 1).run Tryz.prog w = .ok (.pointer (some ⟨b, o + 1, none⟩)) w := by simp [go_sem]
theorem qk_rushlightref06_Num (w : World) (vs : Array Value) : (callFunc 24 vs).run Tryz.prog w = .ok (.enter 24 vs) w := by simp [go_sem]
theorem qa_rushlightref02_Inst_2 (w : World) (b o : Nat) : (Instr.fieldAt 28 (.pointer (some ⟨b, o, none⟩)) 2).run Tryz.prog w = .ok (.pointer (some ⟨b, o + 2, none⟩)) w := by simp [go_sem]
theorem qa_rushlightref02_Inst_3 (w : World) (b o : Nat) : (Instr.fieldAt 28 (.pointer (some ⟨b, o, none⟩)) 3).run Tryz.prog w = .ok (.pointer (some ⟨b, o + 3, none⟩)) w := by simp [go_sem]
theorem qa_rushlightref02_Inst_4 (w : World) (b o : Nat) : (Instr.fieldAt 28 (.pointer (some ⟨b, o, none⟩)) 4).run Tryz.prog w = .ok (.pointer (some ⟨b, o + 4, none⟩)) w := by simp [go_sem]
theorem qk_rushlightref02_Form (w : World) (vs : Array Value) : (callFunc 18 vs).run Tryz.prog w = .ok (.enter 18 vs) w := by simp [go_sem]
theorem qb_eql_uint8 (w : World) (x y : Operand) (m n : Int) : ((do eqGuard .eql 5 x y (.int .u8 m) (.int .u8 n); binOp .eql 5 (.int .u8 m) (.int .u8 n) : Sem Value)).run Tryz.prog w = .ok (.bool (m == n)) w := by simp [go_sem]
theorem qb_geq_int (w : World) (x y : Operand) (m n : Int) : ((do eqGuard .geq 3 x y (.int .i64 m) (.int .i64 n); binOp .geq 3 (.int .i64 m) (.int .i64 n) : Sem Value)).run Tryz.prog w = .ok (.bool (decide (n ≤ m))) w := by simp [go_sem]
theorem qb_leq_int (w : World) (x y : Operand) (m n : Int) : ((do eqGuard .leq 3 x y (.int .i64 m) (.int .i64 n); binOp .leq 3 (.int .i64 m) (.int .i64 n) : Sem Value)).run Tryz.prog w = .ok (.bool (decide (m ≤ n))) w := by simp [go_sem]
theorem ln_R (op rd r1 r2 imm : Int) (h : fm (ix op) = 82) : lineT op rd r1 r2 imm = nmT op ++ [32] ++ ([120] ++ Lib.itoa rd) ++ [44, 32] ++ ([120] ++ Lib.itoa r1) ++ [44, 32] ++ ([120] ++ Lib.itoa r2) := by
  simp [lineT, layT, layF, h, assT, opdT, Lib.join, List.intercalate, regT]
theorem ln_U (op rd r1 r2 imm : Int) (h : fm (ix op) = 85 ∨ fm (ix op) = 74) : lineT op rd r1 r2 imm = nmT op ++ [32] ++ ([120] ++ Lib.itoa rd) ++ [44, 32] ++ Lib.itoa imm := by
  rcases h with h | h <;> simp [lineT, layT, layF, h, assT, opdT, Lib.join, List.intercalate, regT]
theorem ln_B (op rd r1 r2 imm : Int) (h : fm (ix op) = 66) : lineT op rd r1 r2 imm = nmT op ++ [32] ++ ([120] ++ Lib.itoa r1) ++ [44, 32] ++ ([120] ++ Lib.itoa r2) ++ [44, 32] ++ Lib.itoa imm := by
  simp [lineT, layT, layF, h, assT, opdT, Lib.join, List.intercalate, regT]
theorem ln_S (op rd r1 r2 imm : Int) (h : fm (ix op) = 83) : lineT op rd r1 r2 imm = nmT op ++ [32] ++ ([120] ++ Lib.itoa r2) ++ [44, 32] ++ Lib.itoa imm ++ [40] ++ ([120] ++ Lib.itoa r1) ++ [41] := by
  simp [lineT, layT, layF, h, assT, opdT, Lib.join, List.intercalate, regT]
theorem ln_L (op rd r1 r2 imm : Int) (h : fm (ix op) = 73 ∨ fm (ix op) = 72) (h2 : op = 4 ∨ loadB op = true) : lineT op rd r1 r2 imm = nmT op ++ [32] ++ ([120] ++ Lib.itoa rd) ++ [44, 32] ++ Lib.itoa imm ++ [40] ++ ([120] ++ Lib.itoa r1) ++ [41] := by
  rcases h with h | h <;> simp [lineT, layT, layF, h, h2, assT, opdT, Lib.join, List.intercalate, regT]
theorem ln_I (op rd r1 r2 imm : Int) (h : fm (ix op) = 73 ∨ fm (ix op) = 72) (h2 : ¬(op = 4 ∨ loadB op = true)) : lineT op rd r1 r2 imm = nmT op ++ [32] ++ ([120] ++ Lib.itoa rd) ++ [44, 32] ++ ([120] ++ Lib.itoa r1) ++ [44, 32] ++ Lib.itoa imm := by
  rcases h with h | h <;> simp [lineT, layT, layF, h, h2, assT, opdT, Lib.join, List.intercalate, regT]
/-- A number that the document's Num can write. -/
def N64 (n : Int) : Prop := -9223372036854775807 ≤ n ∧ n ≤ 9223372036854775807
theorem N64.len {n : Int} (h : N64 n) : (Lib.itoa n).length ≤ 21 := itoa_len2 (by have := h.1; omega) h.2
theorem t_num (n : Int) (h : N64 n) (w : World) : Calls Tryz.prog 24 #[.int .i64 n] w fun e w' => e = .returned (bts (Lib.itoa n)) ∧ Fr (fun _ => False) w w' :=
  (num_any n h.1 h.2 w).mono fun e w' q => ⟨q.1, by rw [q.2]; exact Fr.refl _ _⟩
theorem t_rname (op : Int) (w : World) : Calls Tryz.prog 23 #[.int .i64 op] w fun e w' => e = .returned (bts (nmT op)) ∧ Fr (fun _ => False) w w' :=
  (c23 op w).mono fun e w' q => ⟨q.1, Fr.of_grown q.2⟩
theorem t_rform (op : Int) (w : World) : Calls Tryz.prog 18 #[.int .i64 op] w fun e w' => e = .returned (.int .u8 (fm (ix op))) ∧ w = w' := c18 op w
set_option maxRecDepth 100000 in
theorem t_rline (op rd r1 r2 imm : Int) (hrd : N64 rd) (hr1 : N64 r1) (hr2 : N64 r2) (him : N64 imm) (hn0 : fm (ix op) ≠ 0) (w : World) : Calls Tryz.prog 12 #[.agg #[.int .i64 op, .int .i64 rd, .int .i64 r1, .int .i64 r2, .int .i64 imm]] w fun e w' => e = .returned (bts (lineT op rd r1 r2 imm)) ∧ Fr (fun _ => False) w w' := by
  have hform : isForm (fm (ix op)) := fm_form op
  have L1 := hrd.len
  have L2 := hr1.len
  have L3 := hr2.len
  have L4 := him.len
  have L5 := nmT_len op
  refine calls_tw Tryz.func12 rfl rfl (Nat.le_of_ble_eq_true rfl) ?_
  refine TW.sreg ?_
  refine WL.box rfl rfl rfl rfl rfl (qx_rushlightref02_Inst w _ _ _ _ _) ?_
  have f1 := fr_al (Fr.refl (fun _ => False) w) (.cells #[.int .i64 op, .int .i64 rd, .int .i64 r1, .int .i64 r2, .int .i64 imm] 28)
  have C := fun j y h => fcell w #[.int .i64 op, .int .i64 rd, .int .i64 r1, .int .i64 r2, .int .i64 imm] 28 j y h
  have c0 : (w.alloc (.cells #[.int .i64 op, .int .i64 rd, .int .i64 r1, .int .i64 r2, .int .i64 imm] 28)).cell? ⟨w.heap.size, 0, none⟩ = some (.int .i64 op) := C 0 _ rfl
  have c1 : (w.alloc (.cells #[.int .i64 op, .int .i64 rd, .int .i64 r1, .int .i64 r2, .int .i64 imm] 28)).cell? ⟨w.heap.size, 0 + 1, none⟩ = some (.int .i64 rd) := C 1 _ rfl
  have c2 : (w.alloc (.cells #[.int .i64 op, .int .i64 rd, .int .i64 r1, .int .i64 r2, .int .i64 imm] 28)).cell? ⟨w.heap.size, 0 + 2, none⟩ = some (.int .i64 r1) := C 2 _ rfl
  have c3 : (w.alloc (.cells #[.int .i64 op, .int .i64 rd, .int .i64 r1, .int .i64 r2, .int .i64 imm] 28)).cell? ⟨w.heap.size, 0 + 3, none⟩ = some (.int .i64 r2) := C 3 _ rfl
  have c4 : (w.alloc (.cells #[.int .i64 op, .int .i64 rd, .int .i64 r1, .int .i64 r2, .int .i64 imm] 28)).cell? ⟨w.heap.size, 0 + 4, none⟩ = some (.int .i64 imm) := C 4 _ rfl
  clear C
  generalize w.alloc (.cells #[.int .i64 op, .int .i64 rd, .int .i64 r1, .int .i64 r2, .int .i64 imm] 28) = w1 at *
  generalize w.heap.size = bx at *
  -- world w1
  refine WL.op rfl rfl rfl (Go.Proofs.YtlagdgkjpnocfaaGreatDoor.W.quiet_assign rfl rfl) ?_
  refine WL.nil ?_
  refine TW.sreg ?_
  refine WL.op rfl rfl rfl (Go.Proofs.YtlagdgkjpnocfaaGreatDoor.W.quiet_field rfl rfl (fun W => (qa_rushlightref02_Inst_0 W _ _))) ?_
  refine WL.ld rfl rfl rfl rfl rfl (ql_int _ _ _ c0) ?_
  refine WL.call (hr := t_rname op w1) rfl rfl rfl rfl rfl (fun W => qk_rushlightref02_Name W _) ?_
  rintro e w2 ⟨rfl, f2⟩
  refine ⟨_, rfl, ?_⟩
  replace c0 := f2.cell c0 id
  replace c1 := f2.cell c1 id
  replace c2 := f2.cell c2 id
  replace c3 := f2.cell c3 id
  replace c4 := f2.cell c4 id
  refine WL.op rfl rfl rfl (Go.Proofs.YtlagdgkjpnocfaaGreatDoor.W.quiet_bin rfl rfl rfl (fun W => bn_cat W _ _ _ _ (by simp only [List.length_append, List.length_cons, List.length_nil]; omega))) ?_
  refine WL.op rfl rfl rfl (Go.Proofs.YtlagdgkjpnocfaaGreatDoor.W.quiet_assign rfl rfl) ?_
  refine WL.nil ?_
  refine Q.sreg (C := fun W => Fr (fun _ => False) w2 W) (by kernel_rfl) (by kernel_rfl) (fun W h => h.drewN 1) (Fr.refl _ _) ?_
  refine W.op rfl rfl rfl (Go.Proofs.YtlagdgkjpnocfaaGreatDoor.W.quiet_field rfl rfl (fun W => (qa_rushlightref02_Inst_1 W _ _))) ?_
  refine W.op rfl rfl rfl (Go.Proofs.YtlagdgkjpnocfaaGreatDoor.W.quiet_load rfl rfl (fun W hW => (ql_int _ _ _ (hW.cell c1 id)))) ?_
  refine W.op rfl rfl rfl (Go.Proofs.YtlagdgkjpnocfaaGreatDoor.W.quiet_call (hr := fun W hW => (t_num rd hrd W).mono fun e w' q => ⟨q.1, hW.trans q.2⟩) rfl rfl (fun W => qk_rushlightref06_Num W _)) ?_
  refine W.op rfl rfl rfl (Go.Proofs.YtlagdgkjpnocfaaGreatDoor.W.quiet_bin rfl rfl rfl (fun W => bn_cat W _ _ _ _ (by simp only [List.length_append, List.length_cons, List.length_nil]; omega))) ?_
  refine W.op rfl rfl rfl (Go.Proofs.YtlagdgkjpnocfaaGreatDoor.W.quiet_field rfl rfl (fun W => (qa_rushlightref02_Inst_2 W _ _))) ?_
  refine W.op rfl rfl rfl (Go.Proofs.YtlagdgkjpnocfaaGreatDoor.W.quiet_load rfl rfl (fun W hW => (ql_int _ _ _ (hW.cell c2 id)))) ?_
  refine W.op rfl rfl rfl (Go.Proofs.YtlagdgkjpnocfaaGreatDoor.W.quiet_call (hr := fun W hW => (t_num r1 hr1 W).mono fun e w' q => ⟨q.1, hW.trans q.2⟩) rfl rfl (fun W => qk_rushlightref06_Num W _)) ?_
  refine W.op rfl rfl rfl (Go.Proofs.YtlagdgkjpnocfaaGreatDoor.W.quiet_bin rfl rfl rfl (fun W => bn_cat W _ _ _ _ (by simp only [List.length_append, List.length_cons, List.length_nil]; omega))) ?_
  refine W.op rfl rfl rfl (Go.Proofs.YtlagdgkjpnocfaaGreatDoor.W.quiet_field rfl rfl (fun W => (qa_rushlightref02_Inst_3 W _ _))) ?_
  refine W.op rfl rfl rfl (Go.Proofs.YtlagdgkjpnocfaaGreatDoor.W.quiet_load rfl rfl (fun W hW => (ql_int _ _ _ (hW.cell c3 id)))) ?_
  refine W.op rfl rfl rfl (Go.Proofs.YtlagdgkjpnocfaaGreatDoor.W.quiet_call (hr := fun W hW => (t_num r2 hr2 W).mono fun e w' q => ⟨q.1, hW.trans q.2⟩) rfl rfl (fun W => qk_rushlightref06_Num W _)) ?_
  refine W.op rfl rfl rfl (Go.Proofs.YtlagdgkjpnocfaaGreatDoor.W.quiet_bin rfl rfl rfl (fun W => bn_cat W _ _ _ _ (by simp only [List.length_append, List.length_cons, List.length_nil]; omega))) ?_
  refine W.op rfl rfl rfl (Go.Proofs.YtlagdgkjpnocfaaGreatDoor.W.quiet_field rfl rfl (fun W => (qa_rushlightref02_Inst_4 W _ _))) ?_
  refine W.op rfl rfl rfl (Go.Proofs.YtlagdgkjpnocfaaGreatDoor.W.quiet_load rfl rfl (fun W hW => (ql_int _ _ _ (hW.cell c4 id)))) ?_
  refine W.op rfl rfl rfl (Go.Proofs.YtlagdgkjpnocfaaGreatDoor.W.quiet_call (hr := fun W hW => (t_num imm him W).mono fun e w' q => ⟨q.1, hW.trans q.2⟩) rfl rfl (fun W => qk_rushlightref06_Num W _)) ?_
  refine W.op rfl rfl rfl (Go.Proofs.YtlagdgkjpnocfaaGreatDoor.W.quiet_assign rfl rfl) ?_
  refine W.op rfl rfl rfl (Go.Proofs.YtlagdgkjpnocfaaGreatDoor.W.quiet_assign rfl rfl) ?_
  refine W.op rfl rfl rfl (Go.Proofs.YtlagdgkjpnocfaaGreatDoor.W.quiet_assign rfl rfl) ?_
  refine W.op rfl rfl rfl (Go.Proofs.YtlagdgkjpnocfaaGreatDoor.W.quiet_assign rfl rfl) ?_
  refine Q.nil (T.tw fun wq1 fq1 => ?_)
  refine TW.sreg ?_
  refine WL.op rfl rfl rfl (Go.Proofs.YtlagdgkjpnocfaaGreatDoor.W.quiet_field rfl rfl (fun W => (qa_rushlightref02_Inst_0 W _ _))) ?_
  refine WL.ld rfl rfl rfl rfl rfl (ql_int _ _ _ (fq1.cell c0 id)) ?_
  refine WL.call (hr := t_rform op wq1) rfl rfl rfl rfl rfl (fun W => qk_rushlightref02_Form W _) ?_
  rintro e w3 ⟨rfl, rfl⟩
  refine ⟨_, rfl, ?_⟩
  refine WL.op rfl rfl rfl (Go.Proofs.YtlagdgkjpnocfaaGreatDoor.W.quiet_assign rfl rfl) ?_
  refine WL.nil ?_
  refine TW.seq ?_
  refine TW.sreg ?_
  refine WL.op rfl rfl rfl (Go.Proofs.YtlagdgkjpnocfaaGreatDoor.W.quiet_move rfl rfl) ?_
  refine WL.op rfl rfl rfl (Go.Proofs.YtlagdgkjpnocfaaGreatDoor.W.quiet_bin rfl rfl rfl (fun W => qb_eql_uint8 W _ _ _ _)) ?_
  refine O.split (fun hb => ?_) (fun hb => ?_)
  · skip
    refine WL.nil ?_
    refine TW.cond rfl (fun _ => ?_) (fun hb => by cases hb)
    refine TW.sreg ?_
    refine WL.op rfl rfl rfl (Go.Proofs.YtlagdgkjpnocfaaGreatDoor.W.quiet_move rfl rfl) ?_
    refine WL.op rfl rfl rfl (Go.Proofs.YtlagdgkjpnocfaaGreatDoor.W.quiet_move rfl rfl) ?_
    refine WL.op rfl rfl rfl (Go.Proofs.YtlagdgkjpnocfaaGreatDoor.W.quiet_bin rfl rfl rfl (fun W => bn_cat W _ _ _ _ (by simp only [List.length_append, List.length_cons, List.length_nil]; omega))) ?_
    refine WL.op rfl rfl rfl (Go.Proofs.YtlagdgkjpnocfaaGreatDoor.W.quiet_bin rfl rfl rfl (fun W => bn_cat W _ _ _ _ (by simp only [List.length_append, List.length_cons, List.length_nil]; omega))) ?_
    refine WL.op rfl rfl rfl (Go.Proofs.YtlagdgkjpnocfaaGreatDoor.W.quiet_move rfl rfl) ?_
    refine WL.op rfl rfl rfl (Go.Proofs.YtlagdgkjpnocfaaGreatDoor.W.quiet_bin rfl rfl rfl (fun W => bn_cat W _ _ _ _ (by simp only [List.length_append, List.length_cons, List.length_nil]; omega))) ?_
    refine WL.op rfl rfl rfl (Go.Proofs.YtlagdgkjpnocfaaGreatDoor.W.quiet_bin rfl rfl rfl (fun W => bn_cat W _ _ _ _ (by simp only [List.length_append, List.length_cons, List.length_nil]; omega))) ?_
    refine WL.op rfl rfl rfl (Go.Proofs.YtlagdgkjpnocfaaGreatDoor.W.quiet_move rfl rfl) ?_
    refine WL.op rfl rfl rfl (Go.Proofs.YtlagdgkjpnocfaaGreatDoor.W.quiet_bin rfl rfl rfl (fun W => bn_cat W _ _ _ _ (by simp only [List.length_append, List.length_cons, List.length_nil]; omega))) ?_
    refine WL.op rfl rfl rfl (Go.Proofs.YtlagdgkjpnocfaaGreatDoor.W.quiet_assign rfl rfl) ?_
    refine WL.nil ?_
    refine TW.rt ?_
    refine Xw.thn (by simp) ?_
    refine bodyw_ret rfl rfl ?_
    exact ⟨by rw [ln_R op rd r1 r2 imm (eq_of_beq hb)], (f1.trans f2).trans fq1⟩
  · skip
    refine WL.nil ?_
    refine TW.cond rfl (fun hb => by cases hb) (fun _ => ?_)
    refine TW.skip ?_
    refine TW.seq ?_
    refine TW.sreg ?_
    refine WL.op rfl rfl rfl (Go.Proofs.YtlagdgkjpnocfaaGreatDoor.W.quiet_move rfl rfl) ?_
    refine WL.op rfl rfl rfl (Go.Proofs.YtlagdgkjpnocfaaGreatDoor.W.quiet_bin rfl rfl rfl (fun W => qb_eql_uint8 W _ _ _ _)) ?_
    refine O.split (fun hb2 => ?_) (fun hb2 => ?_)
    · skip
      refine WL.op rfl rfl rfl (Go.Proofs.YtlagdgkjpnocfaaGreatDoor.W.quiet_move rfl rfl) ?_
      refine WL.skip rfl rfl rfl ?_
      refine WL.skip rfl rfl rfl ?_
      refine WL.op rfl rfl rfl (Go.Proofs.YtlagdgkjpnocfaaGreatDoor.W.quiet_pick rfl rfl rfl) ?_
      refine WL.nil ?_
      refine TW.cond rfl (fun _ => ?_) (fun hb => by cases hb)
      refine TW.sreg ?_
      refine WL.op rfl rfl rfl (Go.Proofs.YtlagdgkjpnocfaaGreatDoor.W.quiet_move rfl rfl) ?_
      refine WL.op rfl rfl rfl (Go.Proofs.YtlagdgkjpnocfaaGreatDoor.W.quiet_move rfl rfl) ?_
      refine WL.op rfl rfl rfl (Go.Proofs.YtlagdgkjpnocfaaGreatDoor.W.quiet_bin rfl rfl rfl (fun W => bn_cat W _ _ _ _ (by simp only [List.length_append, List.length_cons, List.length_nil]; omega))) ?_
      refine WL.op rfl rfl rfl (Go.Proofs.YtlagdgkjpnocfaaGreatDoor.W.quiet_bin rfl rfl rfl (fun W => bn_cat W _ _ _ _ (by simp only [List.length_append, List.length_cons, List.length_nil]; omega))) ?_
      refine WL.op rfl rfl rfl (Go.Proofs.YtlagdgkjpnocfaaGreatDoor.W.quiet_move rfl rfl) ?_
      refine WL.op rfl rfl rfl (Go.Proofs.YtlagdgkjpnocfaaGreatDoor.W.quiet_bin rfl rfl rfl (fun W => bn_cat W _ _ _ _ (by simp only [List.length_append, List.length_cons, List.length_nil]; omega))) ?_
      refine WL.op rfl rfl rfl (Go.Proofs.YtlagdgkjpnocfaaGreatDoor.W.quiet_assign rfl rfl) ?_
      refine WL.nil ?_
      refine TW.rt ?_
      refine Xw.thn (by simp) ?_
      refine bodyw_ret rfl rfl ?_
      exact ⟨by rw [ln_U op rd r1 r2 imm (.inl (eq_of_beq hb2))], (f1.trans f2).trans fq1⟩
    · skip
      refine WL.op rfl rfl rfl (Go.Proofs.YtlagdgkjpnocfaaGreatDoor.W.quiet_move rfl rfl) ?_
      refine WL.op rfl rfl rfl (Go.Proofs.YtlagdgkjpnocfaaGreatDoor.W.quiet_move rfl rfl) ?_
      refine WL.op rfl rfl rfl (Go.Proofs.YtlagdgkjpnocfaaGreatDoor.W.quiet_bin rfl rfl rfl (fun W => qb_eql_uint8 W _ _ _ _)) ?_
      refine O.split (fun hb3 => ?_) (fun hb3 => ?_)
      · skip
        refine WL.op rfl rfl rfl (Go.Proofs.YtlagdgkjpnocfaaGreatDoor.W.quiet_pick rfl rfl rfl) ?_
        refine WL.nil ?_
        refine TW.cond rfl (fun _ => ?_) (fun hb => by cases hb)
        refine TW.sreg ?_
        refine WL.op rfl rfl rfl (Go.Proofs.YtlagdgkjpnocfaaGreatDoor.W.quiet_move rfl rfl) ?_
        refine WL.op rfl rfl rfl (Go.Proofs.YtlagdgkjpnocfaaGreatDoor.W.quiet_move rfl rfl) ?_
        refine WL.op rfl rfl rfl (Go.Proofs.YtlagdgkjpnocfaaGreatDoor.W.quiet_bin rfl rfl rfl (fun W => bn_cat W _ _ _ _ (by simp only [List.length_append, List.length_cons, List.length_nil]; omega))) ?_
        refine WL.op rfl rfl rfl (Go.Proofs.YtlagdgkjpnocfaaGreatDoor.W.quiet_bin rfl rfl rfl (fun W => bn_cat W _ _ _ _ (by simp only [List.length_append, List.length_cons, List.length_nil]; omega))) ?_
        refine WL.op rfl rfl rfl (Go.Proofs.YtlagdgkjpnocfaaGreatDoor.W.quiet_move rfl rfl) ?_
        refine WL.op rfl rfl rfl (Go.Proofs.YtlagdgkjpnocfaaGreatDoor.W.quiet_bin rfl rfl rfl (fun W => bn_cat W _ _ _ _ (by simp only [List.length_append, List.length_cons, List.length_nil]; omega))) ?_
        refine WL.op rfl rfl rfl (Go.Proofs.YtlagdgkjpnocfaaGreatDoor.W.quiet_assign rfl rfl) ?_
        refine WL.nil ?_
        refine TW.rt ?_
        refine Xw.thn (by simp) ?_
        refine bodyw_ret rfl rfl ?_
        exact ⟨by rw [ln_U op rd r1 r2 imm (.inr (eq_of_beq hb3))], (f1.trans f2).trans fq1⟩
      · skip
        refine WL.op rfl rfl rfl (Go.Proofs.YtlagdgkjpnocfaaGreatDoor.W.quiet_pick rfl rfl rfl) ?_
        refine WL.nil ?_
        refine TW.cond rfl (fun hb => by cases hb) (fun _ => ?_)
        refine TW.skip ?_
        refine TW.seq ?_
        refine TW.sreg ?_
        refine WL.op rfl rfl rfl (Go.Proofs.YtlagdgkjpnocfaaGreatDoor.W.quiet_move rfl rfl) ?_
        refine WL.op rfl rfl rfl (Go.Proofs.YtlagdgkjpnocfaaGreatDoor.W.quiet_bin rfl rfl rfl (fun W => qb_eql_uint8 W _ _ _ _)) ?_
        refine O.split (fun hb4 => ?_) (fun hb4 => ?_)
        · skip
          refine WL.nil ?_
          refine TW.cond rfl (fun _ => ?_) (fun hb => by cases hb)
          refine TW.sreg ?_
          refine WL.op rfl rfl rfl (Go.Proofs.YtlagdgkjpnocfaaGreatDoor.W.quiet_move rfl rfl) ?_
          refine WL.op rfl rfl rfl (Go.Proofs.YtlagdgkjpnocfaaGreatDoor.W.quiet_move rfl rfl) ?_
          refine WL.op rfl rfl rfl (Go.Proofs.YtlagdgkjpnocfaaGreatDoor.W.quiet_bin rfl rfl rfl (fun W => bn_cat W _ _ _ _ (by simp only [List.length_append, List.length_cons, List.length_nil]; omega))) ?_
          refine WL.op rfl rfl rfl (Go.Proofs.YtlagdgkjpnocfaaGreatDoor.W.quiet_bin rfl rfl rfl (fun W => bn_cat W _ _ _ _ (by simp only [List.length_append, List.length_cons, List.length_nil]; omega))) ?_
          refine WL.op rfl rfl rfl (Go.Proofs.YtlagdgkjpnocfaaGreatDoor.W.quiet_move rfl rfl) ?_
          refine WL.op rfl rfl rfl (Go.Proofs.YtlagdgkjpnocfaaGreatDoor.W.quiet_bin rfl rfl rfl (fun W => bn_cat W _ _ _ _ (by simp only [List.length_append, List.length_cons, List.length_nil]; omega))) ?_
          refine WL.op rfl rfl rfl (Go.Proofs.YtlagdgkjpnocfaaGreatDoor.W.quiet_bin rfl rfl rfl (fun W => bn_cat W _ _ _ _ (by simp only [List.length_append, List.length_cons, List.length_nil]; omega))) ?_
          refine WL.op rfl rfl rfl (Go.Proofs.YtlagdgkjpnocfaaGreatDoor.W.quiet_move rfl rfl) ?_
          refine WL.op rfl rfl rfl (Go.Proofs.YtlagdgkjpnocfaaGreatDoor.W.quiet_bin rfl rfl rfl (fun W => bn_cat W _ _ _ _ (by simp only [List.length_append, List.length_cons, List.length_nil]; omega))) ?_
          refine WL.op rfl rfl rfl (Go.Proofs.YtlagdgkjpnocfaaGreatDoor.W.quiet_assign rfl rfl) ?_
          refine WL.nil ?_
          refine TW.rt ?_
          refine Xw.thn (by simp) ?_
          refine bodyw_ret rfl rfl ?_
          exact ⟨by rw [ln_B op rd r1 r2 imm (eq_of_beq hb4)], (f1.trans f2).trans fq1⟩
        · skip
          refine WL.nil ?_
          refine TW.cond rfl (fun hb => by cases hb) (fun _ => ?_)
          refine TW.skip ?_
          refine TW.seq ?_
          refine TW.sreg ?_
          refine WL.op rfl rfl rfl (Go.Proofs.YtlagdgkjpnocfaaGreatDoor.W.quiet_move rfl rfl) ?_
          refine WL.op rfl rfl rfl (Go.Proofs.YtlagdgkjpnocfaaGreatDoor.W.quiet_bin rfl rfl rfl (fun W => qb_eql_uint8 W _ _ _ _)) ?_
          refine O.split (fun hb5 => ?_) (fun hb5 => ?_)
          · skip
            refine WL.nil ?_
            refine TW.cond rfl (fun _ => ?_) (fun hb => by cases hb)
            refine TW.sreg ?_
            refine WL.op rfl rfl rfl (Go.Proofs.YtlagdgkjpnocfaaGreatDoor.W.quiet_move rfl rfl) ?_
            refine WL.op rfl rfl rfl (Go.Proofs.YtlagdgkjpnocfaaGreatDoor.W.quiet_move rfl rfl) ?_
            refine WL.op rfl rfl rfl (Go.Proofs.YtlagdgkjpnocfaaGreatDoor.W.quiet_bin rfl rfl rfl (fun W => bn_cat W _ _ _ _ (by simp only [List.length_append, List.length_cons, List.length_nil]; omega))) ?_
            refine WL.op rfl rfl rfl (Go.Proofs.YtlagdgkjpnocfaaGreatDoor.W.quiet_bin rfl rfl rfl (fun W => bn_cat W _ _ _ _ (by simp only [List.length_append, List.length_cons, List.length_nil]; omega))) ?_
            refine WL.op rfl rfl rfl (Go.Proofs.YtlagdgkjpnocfaaGreatDoor.W.quiet_move rfl rfl) ?_
            refine WL.op rfl rfl rfl (Go.Proofs.YtlagdgkjpnocfaaGreatDoor.W.quiet_bin rfl rfl rfl (fun W => bn_cat W _ _ _ _ (by simp only [List.length_append, List.length_cons, List.length_nil]; omega))) ?_
            refine WL.op rfl rfl rfl (Go.Proofs.YtlagdgkjpnocfaaGreatDoor.W.quiet_bin rfl rfl rfl (fun W => bn_cat W _ _ _ _ (by simp only [List.length_append, List.length_cons, List.length_nil]; omega))) ?_
            refine WL.op rfl rfl rfl (Go.Proofs.YtlagdgkjpnocfaaGreatDoor.W.quiet_move rfl rfl) ?_
            refine WL.op rfl rfl rfl (Go.Proofs.YtlagdgkjpnocfaaGreatDoor.W.quiet_bin rfl rfl rfl (fun W => bn_cat W _ _ _ _ (by simp only [List.length_append, List.length_cons, List.length_nil]; omega))) ?_
            refine WL.op rfl rfl rfl (Go.Proofs.YtlagdgkjpnocfaaGreatDoor.W.quiet_bin rfl rfl rfl (fun W => bn_cat W _ _ _ _ (by simp only [List.length_append, List.length_cons, List.length_nil]; omega))) ?_
            refine WL.op rfl rfl rfl (Go.Proofs.YtlagdgkjpnocfaaGreatDoor.W.quiet_assign rfl rfl) ?_
            refine WL.nil ?_
            refine TW.rt ?_
            refine Xw.thn (by simp) ?_
            refine bodyw_ret rfl rfl ?_
            exact ⟨by rw [ln_S op rd r1 r2 imm (eq_of_beq hb5)], (f1.trans f2).trans fq1⟩
          · skip
            have hI : fm (ix op) = 73 ∨ fm (ix op) = 72 := by
              simp only [beq_eq_false_iff_ne, ne_eq] at hb hb2 hb3 hb4 hb5
              unfold isForm at hform
              omega
            refine WL.nil ?_
            refine TW.cond rfl (fun hb => by cases hb) (fun _ => ?_)
            refine TW.skip ?_
            refine TW.seq ?_
            refine TW.sreg ?_
            refine WL.op rfl rfl rfl (Go.Proofs.YtlagdgkjpnocfaaGreatDoor.W.quiet_field rfl rfl (fun W => (qa_rushlightref02_Inst_0 W _ _))) ?_
            refine WL.ld rfl rfl rfl rfl rfl (ql_int _ _ _ (fq1.cell c0 id)) ?_
            refine WL.op rfl rfl rfl (Go.Proofs.YtlagdgkjpnocfaaGreatDoor.W.quiet_bin rfl rfl rfl (fun W => qb_eql_int W _ _ _ _)) ?_
            refine O.split (fun hb6 => ?_) (fun hb6 => ?_)
            · skip
              refine WL.op rfl rfl rfl (Go.Proofs.YtlagdgkjpnocfaaGreatDoor.W.quiet_move rfl rfl) ?_
              refine WL.skip rfl rfl rfl ?_
              refine WL.skip rfl rfl rfl ?_
              refine WL.skip rfl rfl rfl ?_
              refine WL.skip rfl rfl rfl ?_
              refine WL.skip rfl rfl rfl ?_
              refine WL.skip rfl rfl rfl ?_
              refine WL.skip rfl rfl rfl ?_
              refine WL.skip rfl rfl rfl ?_
              refine WL.op rfl rfl rfl (Go.Proofs.YtlagdgkjpnocfaaGreatDoor.W.quiet_pick rfl rfl rfl) ?_
              refine WL.nil ?_
              refine TW.cond rfl (fun _ => ?_) (fun hb => by cases hb)
              refine TW.sreg ?_
              refine WL.op rfl rfl rfl (Go.Proofs.YtlagdgkjpnocfaaGreatDoor.W.quiet_move rfl rfl) ?_
              refine WL.op rfl rfl rfl (Go.Proofs.YtlagdgkjpnocfaaGreatDoor.W.quiet_move rfl rfl) ?_
              refine WL.op rfl rfl rfl (Go.Proofs.YtlagdgkjpnocfaaGreatDoor.W.quiet_bin rfl rfl rfl (fun W => bn_cat W _ _ _ _ (by simp only [List.length_append, List.length_cons, List.length_nil]; omega))) ?_
              refine WL.op rfl rfl rfl (Go.Proofs.YtlagdgkjpnocfaaGreatDoor.W.quiet_bin rfl rfl rfl (fun W => bn_cat W _ _ _ _ (by simp only [List.length_append, List.length_cons, List.length_nil]; omega))) ?_
              refine WL.op rfl rfl rfl (Go.Proofs.YtlagdgkjpnocfaaGreatDoor.W.quiet_move rfl rfl) ?_
              refine WL.op rfl rfl rfl (Go.Proofs.YtlagdgkjpnocfaaGreatDoor.W.quiet_bin rfl rfl rfl (fun W => bn_cat W _ _ _ _ (by simp only [List.length_append, List.length_cons, List.length_nil]; omega))) ?_
              refine WL.op rfl rfl rfl (Go.Proofs.YtlagdgkjpnocfaaGreatDoor.W.quiet_bin rfl rfl rfl (fun W => bn_cat W _ _ _ _ (by simp only [List.length_append, List.length_cons, List.length_nil]; omega))) ?_
              refine WL.op rfl rfl rfl (Go.Proofs.YtlagdgkjpnocfaaGreatDoor.W.quiet_move rfl rfl) ?_
              refine WL.op rfl rfl rfl (Go.Proofs.YtlagdgkjpnocfaaGreatDoor.W.quiet_bin rfl rfl rfl (fun W => bn_cat W _ _ _ _ (by simp only [List.length_append, List.length_cons, List.length_nil]; omega))) ?_
              refine WL.op rfl rfl rfl (Go.Proofs.YtlagdgkjpnocfaaGreatDoor.W.quiet_bin rfl rfl rfl (fun W => bn_cat W _ _ _ _ (by simp only [List.length_append, List.length_cons, List.length_nil]; omega))) ?_
              refine WL.op rfl rfl rfl (Go.Proofs.YtlagdgkjpnocfaaGreatDoor.W.quiet_assign rfl rfl) ?_
              refine WL.nil ?_
              refine TW.rt ?_
              refine Xw.thn (by simp) ?_
              refine bodyw_ret rfl rfl ?_
              exact ⟨by rw [ln_L op rd r1 r2 imm hI (.inl (eq_of_beq hb6))], (f1.trans f2).trans fq1⟩
            · skip
              refine WL.op rfl rfl rfl (Go.Proofs.YtlagdgkjpnocfaaGreatDoor.W.quiet_move rfl rfl) ?_
              refine WL.op rfl rfl rfl (Go.Proofs.YtlagdgkjpnocfaaGreatDoor.W.quiet_field rfl rfl (fun W => (qa_rushlightref02_Inst_0 W _ _))) ?_
              refine WL.ld rfl rfl rfl rfl rfl (ql_int _ _ _ (fq1.cell c0 id)) ?_
              refine WL.op rfl rfl rfl (Go.Proofs.YtlagdgkjpnocfaaGreatDoor.W.quiet_bin rfl rfl rfl (fun W => qb_geq_int W _ _ _ _)) ?_
              refine O.split (fun hb7 => ?_) (fun hb7 => ?_)
              · skip
                refine WL.op rfl rfl rfl (Go.Proofs.YtlagdgkjpnocfaaGreatDoor.W.quiet_move rfl rfl) ?_
                refine WL.op rfl rfl rfl (Go.Proofs.YtlagdgkjpnocfaaGreatDoor.W.quiet_field rfl rfl (fun W => (qa_rushlightref02_Inst_0 W _ _))) ?_
                refine WL.ld rfl rfl rfl rfl rfl (ql_int _ _ _ (fq1.cell c0 id)) ?_
                refine WL.op rfl rfl rfl (Go.Proofs.YtlagdgkjpnocfaaGreatDoor.W.quiet_bin rfl rfl rfl (fun W => qb_leq_int W _ _ _ _)) ?_
                refine O.split (fun hb8 => ?_) (fun hb8 => ?_)
                · skip
                  refine WL.op rfl rfl rfl (Go.Proofs.YtlagdgkjpnocfaaGreatDoor.W.quiet_pick rfl rfl rfl) ?_
                  refine WL.op rfl rfl rfl (Go.Proofs.YtlagdgkjpnocfaaGreatDoor.W.quiet_pick rfl rfl rfl) ?_
                  refine WL.nil ?_
                  refine TW.cond rfl (fun _ => ?_) (fun hb => by cases hb)
                  refine TW.sreg ?_
                  refine WL.op rfl rfl rfl (Go.Proofs.YtlagdgkjpnocfaaGreatDoor.W.quiet_move rfl rfl) ?_
                  refine WL.op rfl rfl rfl (Go.Proofs.YtlagdgkjpnocfaaGreatDoor.W.quiet_move rfl rfl) ?_
                  refine WL.op rfl rfl rfl (Go.Proofs.YtlagdgkjpnocfaaGreatDoor.W.quiet_bin rfl rfl rfl (fun W => bn_cat W _ _ _ _ (by simp only [List.length_append, List.length_cons, List.length_nil]; omega))) ?_
                  refine WL.op rfl rfl rfl (Go.Proofs.YtlagdgkjpnocfaaGreatDoor.W.quiet_bin rfl rfl rfl (fun W => bn_cat W _ _ _ _ (by simp only [List.length_append, List.length_cons, List.length_nil]; omega))) ?_
                  refine WL.op rfl rfl rfl (Go.Proofs.YtlagdgkjpnocfaaGreatDoor.W.quiet_move rfl rfl) ?_
                  refine WL.op rfl rfl rfl (Go.Proofs.YtlagdgkjpnocfaaGreatDoor.W.quiet_bin rfl rfl rfl (fun W => bn_cat W _ _ _ _ (by simp only [List.length_append, List.length_cons, List.length_nil]; omega))) ?_
                  refine WL.op rfl rfl rfl (Go.Proofs.YtlagdgkjpnocfaaGreatDoor.W.quiet_bin rfl rfl rfl (fun W => bn_cat W _ _ _ _ (by simp only [List.length_append, List.length_cons, List.length_nil]; omega))) ?_
                  refine WL.op rfl rfl rfl (Go.Proofs.YtlagdgkjpnocfaaGreatDoor.W.quiet_move rfl rfl) ?_
                  refine WL.op rfl rfl rfl (Go.Proofs.YtlagdgkjpnocfaaGreatDoor.W.quiet_bin rfl rfl rfl (fun W => bn_cat W _ _ _ _ (by simp only [List.length_append, List.length_cons, List.length_nil]; omega))) ?_
                  refine WL.op rfl rfl rfl (Go.Proofs.YtlagdgkjpnocfaaGreatDoor.W.quiet_bin rfl rfl rfl (fun W => bn_cat W _ _ _ _ (by simp only [List.length_append, List.length_cons, List.length_nil]; omega))) ?_
                  refine WL.op rfl rfl rfl (Go.Proofs.YtlagdgkjpnocfaaGreatDoor.W.quiet_assign rfl rfl) ?_
                  refine WL.nil ?_
                  refine TW.rt ?_
                  refine Xw.thn (by simp) ?_
                  refine bodyw_ret rfl rfl ?_
                  exact ⟨by rw [ln_L op rd r1 r2 imm hI (.inr (by have h1 := of_decide_eq_true hb7; have h2 := of_decide_eq_true hb8; simp [loadB, h1, h2]))], (f1.trans f2).trans fq1⟩
                · skip
                  refine WL.op rfl rfl rfl (Go.Proofs.YtlagdgkjpnocfaaGreatDoor.W.quiet_pick rfl rfl rfl) ?_
                  refine WL.op rfl rfl rfl (Go.Proofs.YtlagdgkjpnocfaaGreatDoor.W.quiet_pick rfl rfl rfl) ?_
                  refine WL.nil ?_
                  refine TW.cond rfl (fun hb => by cases hb) (fun _ => ?_)
                  refine TW.skip ?_
                  refine TW.sreg ?_
                  refine WL.op rfl rfl rfl (Go.Proofs.YtlagdgkjpnocfaaGreatDoor.W.quiet_move rfl rfl) ?_
                  refine WL.op rfl rfl rfl (Go.Proofs.YtlagdgkjpnocfaaGreatDoor.W.quiet_move rfl rfl) ?_
                  refine WL.op rfl rfl rfl (Go.Proofs.YtlagdgkjpnocfaaGreatDoor.W.quiet_bin rfl rfl rfl (fun W => bn_cat W _ _ _ _ (by simp only [List.length_append, List.length_cons, List.length_nil]; omega))) ?_
                  refine WL.op rfl rfl rfl (Go.Proofs.YtlagdgkjpnocfaaGreatDoor.W.quiet_bin rfl rfl rfl (fun W => bn_cat W _ _ _ _ (by simp only [List.length_append, List.length_cons, List.length_nil]; omega))) ?_
                  refine WL.op rfl rfl rfl (Go.Proofs.YtlagdgkjpnocfaaGreatDoor.W.quiet_move rfl rfl) ?_
                  refine WL.op rfl rfl rfl (Go.Proofs.YtlagdgkjpnocfaaGreatDoor.W.quiet_bin rfl rfl rfl (fun W => bn_cat W _ _ _ _ (by simp only [List.length_append, List.length_cons, List.length_nil]; omega))) ?_
                  refine WL.op rfl rfl rfl (Go.Proofs.YtlagdgkjpnocfaaGreatDoor.W.quiet_bin rfl rfl rfl (fun W => bn_cat W _ _ _ _ (by simp only [List.length_append, List.length_cons, List.length_nil]; omega))) ?_
                  refine WL.op rfl rfl rfl (Go.Proofs.YtlagdgkjpnocfaaGreatDoor.W.quiet_move rfl rfl) ?_
                  refine WL.op rfl rfl rfl (Go.Proofs.YtlagdgkjpnocfaaGreatDoor.W.quiet_bin rfl rfl rfl (fun W => bn_cat W _ _ _ _ (by simp only [List.length_append, List.length_cons, List.length_nil]; omega))) ?_
                  refine WL.op rfl rfl rfl (Go.Proofs.YtlagdgkjpnocfaaGreatDoor.W.quiet_assign rfl rfl) ?_
                  refine WL.nil ?_
                  refine TW.rt ?_
                  refine bodyw_ret rfl rfl ?_
                  exact ⟨by rw [ln_I op rd r1 r2 imm hI (fun h => by have h1 := of_decide_eq_false hb8; exact h.elim (fun h => by simp [h] at hb6) (fun h => by simp [loadB] at h; omega))], (f1.trans f2).trans fq1⟩
              · skip
                refine WL.op rfl rfl rfl (Go.Proofs.YtlagdgkjpnocfaaGreatDoor.W.quiet_move rfl rfl) ?_
                refine WL.skip rfl rfl rfl ?_
                refine WL.skip rfl rfl rfl ?_
                refine WL.skip rfl rfl rfl ?_
                refine WL.op rfl rfl rfl (Go.Proofs.YtlagdgkjpnocfaaGreatDoor.W.quiet_pick rfl rfl rfl) ?_
                refine WL.op rfl rfl rfl (Go.Proofs.YtlagdgkjpnocfaaGreatDoor.W.quiet_pick rfl rfl rfl) ?_
                refine WL.nil ?_
                refine TW.cond rfl (fun hb => by cases hb) (fun _ => ?_)
                refine TW.skip ?_
                refine TW.sreg ?_
                refine WL.op rfl rfl rfl (Go.Proofs.YtlagdgkjpnocfaaGreatDoor.W.quiet_move rfl rfl) ?_
                refine WL.op rfl rfl rfl (Go.Proofs.YtlagdgkjpnocfaaGreatDoor.W.quiet_move rfl rfl) ?_
                refine WL.op rfl rfl rfl (Go.Proofs.YtlagdgkjpnocfaaGreatDoor.W.quiet_bin rfl rfl rfl (fun W => bn_cat W _ _ _ _ (by simp only [List.length_append, List.length_cons, List.length_nil]; omega))) ?_
                refine WL.op rfl rfl rfl (Go.Proofs.YtlagdgkjpnocfaaGreatDoor.W.quiet_bin rfl rfl rfl (fun W => bn_cat W _ _ _ _ (by simp only [List.length_append, List.length_cons, List.length_nil]; omega))) ?_
                refine WL.op rfl rfl rfl (Go.Proofs.YtlagdgkjpnocfaaGreatDoor.W.quiet_move rfl rfl) ?_
                refine WL.op rfl rfl rfl (Go.Proofs.YtlagdgkjpnocfaaGreatDoor.W.quiet_bin rfl rfl rfl (fun W => bn_cat W _ _ _ _ (by simp only [List.length_append, List.length_cons, List.length_nil]; omega))) ?_
                refine WL.op rfl rfl rfl (Go.Proofs.YtlagdgkjpnocfaaGreatDoor.W.quiet_bin rfl rfl rfl (fun W => bn_cat W _ _ _ _ (by simp only [List.length_append, List.length_cons, List.length_nil]; omega))) ?_
                refine WL.op rfl rfl rfl (Go.Proofs.YtlagdgkjpnocfaaGreatDoor.W.quiet_move rfl rfl) ?_
                refine WL.op rfl rfl rfl (Go.Proofs.YtlagdgkjpnocfaaGreatDoor.W.quiet_bin rfl rfl rfl (fun W => bn_cat W _ _ _ _ (by simp only [List.length_append, List.length_cons, List.length_nil]; omega))) ?_
                refine WL.op rfl rfl rfl (Go.Proofs.YtlagdgkjpnocfaaGreatDoor.W.quiet_assign rfl rfl) ?_
                refine WL.nil ?_
                refine TW.rt ?_
                refine bodyw_ret rfl rfl ?_
                exact ⟨by rw [ln_I op rd r1 r2 imm hI (fun h => by have h1 := of_decide_eq_false hb7; exact h.elim (fun h => by simp [h] at hb6) (fun h => by simp [loadB] at h; omega))], (f1.trans f2).trans fq1⟩
end Go.Proofs.YtlagdgkjpnocfaaGreatDoor
