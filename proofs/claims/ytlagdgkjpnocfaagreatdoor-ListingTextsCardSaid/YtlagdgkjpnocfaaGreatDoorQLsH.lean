/-
  Listing (layer 6): the line of a word; Line. Listing (layer 6): a line with its address; Line; Text.
-/
import Derived.Test.YtlagdgkjpnocfaaGreatDoorQLsF
namespace Go.Proofs.YtlagdgkjpnocfaaGreatDoor
open Go.RowKit
set_option linter.unusedVariables false
set_option linter.unusedSimpArgs false
theorem regV_64 (u n : Int) (b : Bool) : I64 (regV u n b) := by
  unfold regV I64
  split <;> omega
theorem sg_64 {a : Int} (h0 : 0 ≤ a) (h1 : a ≤ 4294967295) : I64 (sg a) := by
  unfold sg I64
  split <;> omega
theorem gath_in2 (f u : Int) : 0 ≤ gath f u 4 ∧ gath f u 4 ≤ 4294967295 := or_in _ _
theorem gathS_64 (f u : Int) : I64 (gathS f u) := sg_64 (signF_in _ (gath_in2 f u)).1 (signF_in _ (gath_in2 f u)).2
def decI (u : Int) : Bool := findI u != 0
/-- The line of a word, without its address. -/
def bodyT (u : Nat) : List UInt8 :=
  if findI (u : Int) = 0 then assT [46, 119, 111, 114, 100] [[48, 120] ++ hexT u]
  else lineT (findI (u : Int)) (regV u 7 (uRd (fm (findI (u : Int))))) (regV u 15 (uRs1 (fm (findI (u : Int))))) (regV u 20 (uRs2 (fm (findI (u : Int))))) (gathS (fm (findI (u : Int))) u)
theorem lay_pos {k : Nat} (hk : k < 46) (k0 : k ≠ 0) : 0 < (layT (k : Int)).length := by
  have h : ∀ k : Fin 46, k.val ≠ 0 → 0 < (layT (k.val : Int)).length := by decide
  exact h ⟨k, hk⟩ k0
theorem asT_one (a x : List UInt8) : assT a [x] = a ++ [32] ++ x := by simp [assT, Lib.join]
set_option maxRecDepth 100000 in
theorem t_body (u : Nat) (hu : u < 4294967296) (w : World) (ht : TabW w) (hd : DbW w) : Calls Tryz.prog 48 #[.int .u32 (u : Int)] w fun e w' => e = .returned (bts (bodyT u)) ∧ Fr (fun _ => False) w w' := by
  have hb : bodyT u = if findI (u : Int) = 0 then assT [46, 119, 111, 114, 100] [[48, 120] ++ hexT u] else lineT (findI (u : Int)) (regV u 7 (uRd (fm (findI (u : Int))))) (regV u 15 (uRs1 (fm (findI (u : Int))))) (regV u 20 (uRs2 (fm (findI (u : Int))))) (gathS (fm (findI (u : Int))) u) := rfl
  have hlt := find_lt (u : Int)
  have h8 := hexT_len hu
  refine calls_tw Tryz.func48 rfl rfl (Nat.le_of_ble_eq_true rfl) ?_
  refine TW.sreg ?_
  refine WL.op rfl rfl rfl (Go.Proofs.YtlagdgkjpnocfaaGreatDoor.W.quiet_assign rfl rfl) ?_
  refine WL.nil ?_
  by_cases hz : findI (u : Int) = 0
  · rw [if_pos hz] at hb
    refine TW.sreg ?_
    refine WL.op rfl rfl rfl (Go.Proofs.YtlagdgkjpnocfaaGreatDoor.W.quiet_move rfl rfl) ?_
    refine WL.call (hr := c72_none (u : Int) (by omega) (by omega) hz w) rfl rfl rfl rfl rfl (fun W => cf_dcd W _) ?_
    rintro e w1 ⟨rfl, hg⟩
    refine ⟨_, rfl, ?_⟩
    have f1 : Fr (fun _ => False) w w1 := Fr.of_grown hg
    refine WL.op rfl rfl rfl (Go.Proofs.YtlagdgkjpnocfaaGreatDoor.W.quiet_move rfl rfl) ?_
    refine WL.ext rfl rfl rfl rfl rfl rfl ?_
    refine WL.ext rfl rfl rfl rfl rfl rfl ?_
    refine WL.alloc rfl rfl rfl rfl (pal_ins _) ?_
    refine WL.store rfl rfl rfl rfl rfl (pst_ins _ _ _ _ _ _) ?_
    refine WL.op rfl rfl rfl (Go.Proofs.YtlagdgkjpnocfaaGreatDoor.W.quiet_assign rfl rfl) ?_
    refine WL.nil ?_
    have f2 := fr_al f1 (.cells #[.int .i64 0, .int .i64 0, .int .i64 0, .int .i64 0, .int .i64 0] 23)
    generalize w1.alloc (.cells #[.int .i64 0, .int .i64 0, .int .i64 0, .int .i64 0, .int .i64 0] 23) = w2 at *
    refine TW.seq ?_
    refine TW.sreg ?_
    refine WL.op rfl rfl rfl (Go.Proofs.YtlagdgkjpnocfaaGreatDoor.W.quiet_move rfl rfl) ?_
    refine WL.op rfl rfl rfl (Go.Proofs.YtlagdgkjpnocfaaGreatDoor.W.quiet_bin rfl rfl rfl (fun W => bn_neE W _ _ _ _)) ?_
    refine WL.nil ?_
    refine TW.cond rfl (fun _ => ?_) (fun hb => by cases hb)
    refine TW.sreg ?_
    refine WL.op rfl rfl rfl (Go.Proofs.YtlagdgkjpnocfaaGreatDoor.W.quiet_move rfl rfl) ?_
    refine WL.call (hr := t_hex u hu w2 (f2.cell hd id)) rfl rfl rfl rfl rfl (fun W => cf_hex W _) ?_
    rintro e w3 ⟨rfl, f3⟩
    refine ⟨_, rfl, ?_⟩
    refine WL.op rfl rfl rfl (Go.Proofs.YtlagdgkjpnocfaaGreatDoor.W.quiet_bin rfl rfl rfl (fun W => bn_cat W _ _ [48, 120] (hexT u) (by rw [h8]; decide))) ?_
    refine WL.bslice rfl rfl rfl rfl rfl (bs_s _ _) ?_
    have f4 := fr_al (Fr.refl (fun _ => False) w3) (.cells #[bts ([48, 120] ++ hexT u)] 9)
    have hS : StrsAt w3.heap.size (w3.alloc (.cells #[bts ([48, 120] ++ hexT u)] 9)) (.slice (some ⟨w3.heap.size, 0, none⟩) 1 1) [[48, 120] ++ hexT u] := ⟨rfl, .inr ⟨w3.heap.size, 1, _, rfl, Nat.le_refl _, heap_alloc_new _ _, Nat.le_refl _, by unfold maxLen; decide, rfl, rfl⟩⟩
    generalize w3.alloc (.cells #[bts ([48, 120] ++ hexT u)] 9) = w4 at *
    refine WL.call (hr := t_assemble [46, 119, 111, 114, 100] _ _ _ w4 hS (by simp) (by simp) (by simp [Lib.join, h8]) (by decide)) rfl rfl rfl rfl rfl (fun W => cf_ass W _) ?_
    rintro e w5 ⟨rfl, f5⟩
    refine ⟨_, rfl, ?_⟩
    refine WL.op rfl rfl rfl (Go.Proofs.YtlagdgkjpnocfaaGreatDoor.W.quiet_assign rfl rfl) ?_
    refine WL.nil ?_
    refine TW.rt ?_
    repeat (with_reducible first | refine Xw.thn (by simp) ?_ | refine Xw.rblk ?_)
    refine bodyw_ret rfl rfl ?_
    exact ⟨by rw [hb], f2.trans (f3.trans (f4.trans f5))⟩
  rw [if_neg hz] at hb
  obtain ⟨k, hk⟩ : ∃ z, findI (u : Int) = z := ⟨_, rfl⟩
  have KD := c72_some (u : Int) (by omega) (by omega) k hk (by rw [← hk]; exact hz) w
  have g1 := regV_64 (u : Int) 7 (uRd (fm k))
  have g2 := regV_64 (u : Int) 15 (uRs1 (fm k))
  have g3 := regV_64 (u : Int) 20 (uRs2 (fm k))
  have g4 := gathS_64 (fm k) (u : Int)
  have hlp := lay_pos (k := k) (by omega) (by omega)
  rw [hk] at hb
  generalize regV (u : Int) 7 (uRd (fm k)) = A at *
  generalize regV (u : Int) 15 (uRs1 (fm k)) = B at *
  generalize regV (u : Int) 20 (uRs2 (fm k)) = C at *
  generalize gathS (fm k) (u : Int) = D at *
  refine TW.sreg ?_
  refine WL.op rfl rfl rfl (Go.Proofs.YtlagdgkjpnocfaaGreatDoor.W.quiet_move rfl rfl) ?_
  refine WL.call (hr := KD) rfl rfl rfl rfl rfl (fun W => cf_dcd W _) ?_
  rintro e w1 ⟨rfl, hg⟩
  refine ⟨_, rfl, ?_⟩
  have f1 : Fr (fun _ => False) w w1 := Fr.of_grown hg
  refine WL.op rfl rfl rfl (Go.Proofs.YtlagdgkjpnocfaaGreatDoor.W.quiet_move rfl rfl) ?_
  refine WL.ext rfl rfl rfl rfl rfl rfl ?_
  refine WL.ext rfl rfl rfl rfl rfl rfl ?_
  refine WL.alloc rfl rfl rfl rfl (pal_ins _) ?_
  refine WL.store rfl rfl rfl rfl rfl (pst_ins _ _ _ _ _ _) ?_
  refine WL.op rfl rfl rfl (Go.Proofs.YtlagdgkjpnocfaaGreatDoor.W.quiet_assign rfl rfl) ?_
  refine WL.nil ?_
  have f2 := fr_al f1 (.cells #[.int .i64 (k : Int), .int .i64 A, .int .i64 B, .int .i64 C, .int .i64 D] 23)
  have CC := fun j y h => fcell w1 #[.int .i64 (k : Int), .int .i64 A, .int .i64 B, .int .i64 C, .int .i64 D] 23 j y h
  have c0 := CC 0 _ rfl
  have c1 := CC 1 _ rfl
  have c2 := CC 2 _ rfl
  have c3 := CC 3 _ rfl
  have c4 := CC 4 _ rfl
  clear CC
  generalize w1.alloc (.cells #[.int .i64 (k : Int), .int .i64 A, .int .i64 B, .int .i64 C, .int .i64 D] 23) = w2 at *
  generalize w1.heap.size = bx at *
  refine TW.seq ?_
  refine TW.sreg ?_
  refine WL.op rfl rfl rfl (Go.Proofs.YtlagdgkjpnocfaaGreatDoor.W.quiet_move rfl rfl) ?_
  refine WL.op rfl rfl rfl (Go.Proofs.YtlagdgkjpnocfaaGreatDoor.W.quiet_bin rfl rfl rfl (fun W => bn_neE W _ _ _ _)) ?_
  refine WL.nil ?_
  refine TW.cond rfl (fun hb => by cases hb) (fun _ => ?_)
  refine TW.skip ?_
  refine TW.sreg ?_
  refine WL.ld rfl rfl rfl rfl rfl (ldins _ _ _ _ _ _ _ _ c0 (by rw [Nat.zero_add]; exact c1) (by rw [Nat.zero_add]; exact c2) (by rw [Nat.zero_add]; exact c3) (by rw [Nat.zero_add]; exact c4)) ?_
  refine WL.call (hr := t_line (k : Int) A B C D g1 g2 g3 g4 hlp w2 (ht.fr f2 id)) rfl rfl rfl rfl rfl (fun W => cf_ln W _) ?_
  rintro e w3 ⟨rfl, f3⟩
  refine ⟨_, rfl, ?_⟩
  refine WL.op rfl rfl rfl (Go.Proofs.YtlagdgkjpnocfaaGreatDoor.W.quiet_assign rfl rfl) ?_
  refine WL.nil ?_
  refine TW.rt ?_
  repeat (with_reducible first | refine Xw.thn (by simp) ?_ | refine Xw.rblk ?_)
  refine bodyw_ret rfl rfl ?_
  exact ⟨by rw [hb], f2.trans f3⟩
/-- The line of a word with its address. -/
def wlT (a u : Nat) : List UInt8 := hexT a ++ [58, 32] ++ bodyT u ++ [10]
theorem body_len {u : Nat} (hu : u < 4294967296) : (bodyT u).length ≤ 1200 := by
  have h8 := hexT_len hu
  unfold bodyT
  split
  · rw [asT_one]; simp [h8]
  · unfold lineT assT
    have := nmT_len (findI (u : Int))
    have hj := join_len3 ((layT (findI (u : Int))).map (opdT (regV u 7 (uRd (fm (findI (u : Int))))) (regV u 15 (uRs1 (fm (findI (u : Int))))) (regV u 20 (uRs2 (fm (findI (u : Int))))) (gathS (fm (findI (u : Int))) u))) (by rw [List.length_map]; exact lay_len _) (fun x hx => by
      obtain ⟨o, _, rfl⟩ := List.mem_map.1 hx
      exact opd_len (regV_64 _ _ _) (regV_64 _ _ _) (regV_64 _ _ _) (gathS_64 _ _) o)
    simp only [List.length_append, List.length_cons, List.length_nil]
    omega
theorem wl_len {a u : Nat} (ha : a < 4294967296) (hu : u < 4294967296) : (wlT a u).length ≤ 1300 := by
  have := body_len hu
  have := hexT_len ha
  unfold wlT
  simp only [List.length_append, List.length_cons, List.length_nil]
  omega
set_option maxRecDepth 100000 in
theorem t_wline (a u : Nat) (ha : a < 4294967296) (hu : u < 4294967296) (w : World) (ht : TabW w) (hd : DbW w) : Calls Tryz.prog 28 #[.int .i64 (a : Int), .int .u32 (u : Int)] w fun e w' => e = .returned (bts (wlT a u)) ∧ Fr (fun _ => False) w w' := by
  have hb := body_len hu
  have h8 := hexT_len ha
  refine calls_tw Tryz.func28 rfl rfl (Nat.le_of_ble_eq_true rfl) ?_
  refine TW.sreg ?_
  refine WL.op rfl rfl rfl (Go.Proofs.YtlagdgkjpnocfaaGreatDoor.W.quiet_assign rfl rfl) ?_
  refine WL.nil ?_
  refine TW.sreg ?_
  refine WL.op rfl rfl rfl (Go.Proofs.YtlagdgkjpnocfaaGreatDoor.W.quiet_move rfl rfl) ?_
  refine WL.cv rfl rfl rfl rfl rfl (cv_i32 _ _ (by omega) (by omega)) ?_
  refine WL.call (hr := t_hex a ha w hd) rfl rfl rfl rfl rfl (fun W => cf_hex W _) ?_
  rintro e w1 ⟨rfl, f1⟩
  refine ⟨_, rfl, ?_⟩
  refine WL.op rfl rfl rfl (Go.Proofs.YtlagdgkjpnocfaaGreatDoor.W.quiet_bin rfl rfl rfl (fun W => bn_cat W _ _ (hexT a) [58, 32] (by rw [h8]; decide))) ?_
  refine WL.op rfl rfl rfl (Go.Proofs.YtlagdgkjpnocfaaGreatDoor.W.quiet_move rfl rfl) ?_
  refine WL.call (hr := t_body u hu w1 (ht.fr f1 id) (f1.cell hd id)) rfl rfl rfl rfl rfl (fun W => cf_wb W _) ?_
  rintro e w2 ⟨rfl, f2⟩
  refine ⟨_, rfl, ?_⟩
  refine WL.op rfl rfl rfl (Go.Proofs.YtlagdgkjpnocfaaGreatDoor.W.quiet_bin rfl rfl rfl (fun W => bn_cat W _ _ (hexT a ++ [58, 32]) (bodyT u) (by simp [h8]; omega))) ?_
  refine WL.op rfl rfl rfl (Go.Proofs.YtlagdgkjpnocfaaGreatDoor.W.quiet_bin rfl rfl rfl (fun W => bn_cat W _ _ (hexT a ++ [58, 32] ++ bodyT u) [10] (by simp [h8]; omega))) ?_
  refine WL.op rfl rfl rfl (Go.Proofs.YtlagdgkjpnocfaaGreatDoor.W.quiet_assign rfl rfl) ?_
  refine WL.nil ?_
  refine TW.rt ?_
  repeat (with_reducible first | refine Xw.thn (by simp) ?_ | refine Xw.rblk ?_)
  refine bodyw_ret rfl rfl ?_
  exact ⟨rfl, f1.trans f2⟩
set_option maxRecDepth 100000 in
/-- Line: of a valid instruction, and of no instruction. -/
theorem t_Line (op rd r1 r2 imm : Int) (h1 : I64 rd) (h2 : I64 r1) (h3 : I64 r2) (h4 : I64 imm) (w : World) (ht : TabW w) (h0 : fitsB rd r1 r2 imm (fm (ix op)) = true → 0 < (layT op).length) : Calls Tryz.prog 8 #[.agg #[.int .i64 op, .int .i64 rd, .int .i64 r1, .int .i64 r2, .int .i64 imm]] w fun e w' => e = .returned (.tuple (if fitsB rd r1 r2 imm (fm (ix op)) = true then #[bts (lineT op rd r1 r2 imm), .int .i64 0] else #[bts [], .int .i64 1])) ∧ Fr (fun _ => False) w w' := by
  have KR := fun w => c13 op rd r1 r2 imm w
  generalize fitsB rd r1 r2 imm (fm (ix op)) = b at *
  refine calls_tw Tryz.func8 rfl rfl (Nat.le_of_ble_eq_true rfl) ?_
  refine TW.sreg ?_
  refine WL.box rfl rfl rfl rfl rfl (bx_ins _ _ _ _ _ _) ?_
  refine WL.op rfl rfl rfl (Go.Proofs.YtlagdgkjpnocfaaGreatDoor.W.quiet_assign rfl rfl) ?_
  refine WL.op rfl rfl rfl (Go.Proofs.YtlagdgkjpnocfaaGreatDoor.W.quiet_assign rfl rfl) ?_
  refine WL.nil ?_
  have f1 := fr_al (Fr.refl (fun _ => False) w) (.cells #[.int .i64 op, .int .i64 rd, .int .i64 r1, .int .i64 r2, .int .i64 imm] 23)
  have C := fun j y h => fcell w #[.int .i64 op, .int .i64 rd, .int .i64 r1, .int .i64 r2, .int .i64 imm] 23 j y h
  have c0 := C 0 _ rfl
  have c1 := C 1 _ rfl
  have c2 := C 2 _ rfl
  have c3 := C 3 _ rfl
  have c4 := C 4 _ rfl
  clear C
  generalize w.alloc (.cells #[.int .i64 op, .int .i64 rd, .int .i64 r1, .int .i64 r2, .int .i64 imm] 23) = w1 at *
  generalize w.heap.size = bx at *
  refine TW.seq ?_
  refine TW.sreg ?_
  refine WL.ld rfl rfl rfl rfl rfl (ldins _ _ _ _ _ _ _ _ c0 (by rw [Nat.zero_add]; exact c1) (by rw [Nat.zero_add]; exact c2) (by rw [Nat.zero_add]; exact c3) (by rw [Nat.zero_add]; exact c4)) ?_
  refine WL.call (hr := KR w1) rfl rfl rfl rfl rfl (fun W => cf_rt W _) ?_
  rintro e w2 ⟨rfl, hg⟩
  refine ⟨_, rfl, ?_⟩
  have f2 : Fr (fun _ => False) w1 w2 := Fr.of_grown hg
  refine WL.op rfl rfl rfl (Go.Proofs.YtlagdgkjpnocfaaGreatDoor.W.quiet_not rfl rfl) ?_
  refine WL.nil ?_
  cases b
  · refine TW.cond rfl (fun _ => ?_) (fun hb => by cases hb)
    refine TW.sreg ?_
    refine WL.op rfl rfl rfl (Go.Proofs.YtlagdgkjpnocfaaGreatDoor.W.quiet_assign rfl rfl) ?_
    refine WL.op rfl rfl rfl (Go.Proofs.YtlagdgkjpnocfaaGreatDoor.W.quiet_assign rfl rfl) ?_
    refine WL.nil ?_
    refine TW.rt ?_
    repeat (with_reducible first | refine Xw.thn (by simp) ?_ | refine Xw.rblk ?_)
    refine bodyw_ret2 rfl rfl rfl ?_
    exact ⟨rfl, f1.trans f2⟩
  · refine TW.cond rfl (fun hb => by cases hb) (fun _ => ?_)
    refine TW.skip ?_
    refine TW.sreg ?_
    refine WL.ld rfl rfl rfl rfl rfl (ldins _ _ _ _ _ _ _ _ (f2.cell c0 id) (by rw [Nat.zero_add]; exact f2.cell c1 id) (by rw [Nat.zero_add]; exact f2.cell c2 id) (by rw [Nat.zero_add]; exact f2.cell c3 id) (by rw [Nat.zero_add]; exact f2.cell c4 id)) ?_
    refine WL.call (hr := t_line op rd r1 r2 imm h1 h2 h3 h4 (h0 rfl) w2 ((ht.fr f1 id).fr f2 id)) rfl rfl rfl rfl rfl (fun W => cf_ln W _) ?_
    rintro e w3 ⟨rfl, f3⟩
    refine ⟨_, rfl, ?_⟩
    refine WL.op rfl rfl rfl (Go.Proofs.YtlagdgkjpnocfaaGreatDoor.W.quiet_assign rfl rfl) ?_
    refine WL.op rfl rfl rfl (Go.Proofs.YtlagdgkjpnocfaaGreatDoor.W.quiet_assign rfl rfl) ?_
    refine WL.nil ?_
    refine TW.rt ?_
    repeat (with_reducible first | refine Xw.thn (by simp) ?_ | refine Xw.rblk ?_)
    refine bodyw_ret2 rfl rfl rfl ?_
    exact ⟨rfl, f1.trans (f2.trans f3)⟩
/-- Words in memory. -/
def U32At (w : World) (a : Option Addr) (l : List Nat) : Prop := ∀ k, k < l.length → ∃ g o, a = some ⟨g, o, none⟩ ∧ w.cell? ⟨g, o + k, none⟩ = some (.int .u32 (l.getD k 0 : Nat))
/-- The text of the first words. -/
def txT (l : List Nat) : Nat → List UInt8
  | 0 => []
  | k + 1 => txT l k ++ wlT (4 * k) (l.getD k 0)
theorem tx_len {l : List Nat} (hl : l.length ≤ 40000) (hu : ∀ k, k < l.length → l.getD k 0 < 4294967296) : ∀ k, k ≤ l.length → (txT l k).length ≤ 1300 * k
  | 0, _ => by simp [txT]
  | k + 1, hk => by
    have := tx_len hl hu k (by omega)
    have := wl_len (a := 4 * k) (u := l.getD k 0) (by omega) (hu k (by omega))
    unfold txT
    rw [List.length_append]
    omega
section
variable (w : World) (b o n c j : Nat)
theorem ln_u (a : Option Addr) (k l : Nat) : (Builtin.len_ #[35] 3 #[.slice a k l]).run Tryz.prog w = .ok (.int .i64 k) w := by simp [go_sem]
theorem ix_u (hj : j < n) : (Instr.indexAt 35 (.slice (some ⟨b, o, none⟩) n c) (.int .i64 (j : Int))).run Tryz.prog w = .ok (.pointer (some ⟨b, o + j, none⟩)) w := by
  have h : (j : Int) < (n : Int) := by omega
  simp [go_sem, h, hj]
theorem ld_u (m : Int) (d : Addr) (h : w.cell? d = some (.int .u32 m)) : (Instr.loadAt 40 (.pointer (some d))).run Tryz.prog w = .ok (.int .u32 m) w := by simp [go_sem, h]
theorem al_b : (Instr.alloc 54 true (.tuple #[])).run Tryz.prog w = .ok (.pointer (some ⟨w.heap.size, 0, none⟩)) (w.alloc (.cells #[.pointer none, .slice none 0 0] 54)) := by simp [go_sem]
theorem bn_lt2 (x y : Operand) (m n : Int) : (do eqGuard .lss 3 x y (.int .i64 m) (.int .i64 n); binOp .lss 3 (.int .i64 m) (.int .i64 n) : Sem Value).run Tryz.prog w = .ok (.bool (decide (m < n))) w := by simp [go_sem]
theorem bn_mul (x y : Operand) (m n : Int) (h0 : -9223372036854775808 ≤ m * n) (h1 : m * n ≤ 9223372036854775807) : (do eqGuard .mul 3 x y (.int .i64 m) (.int .i64 n); binOp .mul 3 (.int .i64 m) (.int .i64 n) : Sem Value).run Tryz.prog w = .ok (.int .i64 (m * n)) w := by
  have h : IntKind.i64.wrap (m * n) = m * n := IntWalk.i64_in _ (by omega)
  simp [go_sem, h]
theorem bn_add2 (x y : Operand) (m n : Int) (h0 : -9223372036854775808 ≤ m + n) (h1 : m + n ≤ 9223372036854775807) : (do eqGuard .add 3 x y (.int .i64 m) (.int .i64 n); binOp .add 3 (.int .i64 m) (.int .i64 n) : Sem Value).run Tryz.prog w = .ok (.int .i64 (m + n)) w := by
  have h : IntKind.i64.wrap (m + n) = m + n := IntWalk.i64_in _ (by omega)
  simp [go_sem, h]
theorem cf_wl (vs : Array Value) : (callFunc 28 vs).run Tryz.prog w = .ok (.enter 28 vs) w := by simp [go_sem]
theorem cf_ws (vs : Array Value) : (callFunc 27 vs).run Tryz.prog w = .ok (.enter 27 vs) w := by simp [go_sem]
theorem cf_str (vs : Array Value) : (callFunc 29 vs).run Tryz.prog w = .ok (.enter 29 vs) w := by simp [go_sem]
end
set_option maxRecDepth 100000 in
/-- Text: too many words. -/
theorem t_text_long (a : Option Addr) (n c : Nat) (h : 40000 < n) (w : World) : Calls Tryz.prog 14 #[.slice a n c] w fun e w' => e = .returned (.tuple #[bts [], .int .i64 2]) ∧ w = w' := by
  refine calls_tw Tryz.func14 rfl rfl (Nat.le_of_ble_eq_true rfl) ?_
  refine TW.sreg ?_
  refine WL.op rfl rfl rfl (Go.Proofs.YtlagdgkjpnocfaaGreatDoor.W.quiet_assign rfl rfl) ?_
  refine WL.op rfl rfl rfl (Go.Proofs.YtlagdgkjpnocfaaGreatDoor.W.quiet_assign rfl rfl) ?_
  refine WL.nil ?_
  refine TW.seq ?_
  refine TW.sreg ?_
  refine WL.op rfl rfl rfl (Go.Proofs.YtlagdgkjpnocfaaGreatDoor.W.quiet_move rfl rfl) ?_
  refine WL.op rfl rfl rfl (Go.Proofs.YtlagdgkjpnocfaaGreatDoor.W.quiet_len rfl rfl (fun W => ln_u W _ _ _)) ?_
  refine WL.op rfl rfl rfl (Go.Proofs.YtlagdgkjpnocfaaGreatDoor.W.quiet_bin rfl rfl rfl (fun W => (bn_gti W _ _ _ _).trans (by rw [decide_eq_true (by omega)]))) ?_
  refine WL.nil ?_
  refine TW.cond rfl (fun _ => ?_) (fun hb => by cases hb)
  refine TW.sreg ?_
  refine WL.op rfl rfl rfl (Go.Proofs.YtlagdgkjpnocfaaGreatDoor.W.quiet_assign rfl rfl) ?_
  refine WL.op rfl rfl rfl (Go.Proofs.YtlagdgkjpnocfaaGreatDoor.W.quiet_assign rfl rfl) ?_
  refine WL.nil ?_
  refine TW.rt ?_
  repeat (with_reducible first | refine Xw.thn (by simp) ?_ | refine Xw.rblk ?_)
  refine bodyw_ret2 rfl rfl rfl ?_
  exact ⟨rfl, rfl⟩
set_option maxRecDepth 100000 in
set_option maxHeartbeats 1600000 in
theorem t_text (a : Option Addr) (c : Nat) (l : List Nat) (hl : l.length ≤ 40000) (hu : ∀ k, k < l.length → l.getD k 0 < 4294967296) (w : World) (hat : U32At w a l) (ht : TabW w) (hd : DbW w) (hgl : 7 < w.heap.size) : Calls Tryz.prog 14 #[.slice a l.length c] w fun e w' => e = .returned (.tuple #[bts (txT l l.length), .int .i64 0]) ∧ Fr (fun _ => False) w w' := by
  have htxl := tx_len hl hu
  refine calls_tw Tryz.func14 rfl rfl (Nat.le_of_ble_eq_true rfl) ?_
  refine TW.sreg ?_
  refine WL.op rfl rfl rfl (Go.Proofs.YtlagdgkjpnocfaaGreatDoor.W.quiet_assign rfl rfl) ?_
  refine WL.op rfl rfl rfl (Go.Proofs.YtlagdgkjpnocfaaGreatDoor.W.quiet_assign rfl rfl) ?_
  refine WL.nil ?_
  refine TW.seq ?_
  refine TW.sreg ?_
  refine WL.op rfl rfl rfl (Go.Proofs.YtlagdgkjpnocfaaGreatDoor.W.quiet_move rfl rfl) ?_
  refine WL.op rfl rfl rfl (Go.Proofs.YtlagdgkjpnocfaaGreatDoor.W.quiet_len rfl rfl (fun W => ln_u W _ _ _)) ?_
  refine WL.op rfl rfl rfl (Go.Proofs.YtlagdgkjpnocfaaGreatDoor.W.quiet_bin rfl rfl rfl (fun W => (bn_gti W _ _ _ _).trans (by rw [decide_eq_false (by omega)]))) ?_
  refine WL.nil ?_
  refine TW.cond rfl (fun hb => by cases hb) (fun _ => ?_)
  refine TW.skip ?_
  refine TW.sreg ?_
  refine WL.alloc rfl rfl rfl rfl (al_b _) ?_
  refine WL.nil ?_
  have f1 := fr_al (Fr.refl (fun _ => False) w) (.cells #[.pointer none, .slice none 0 0] 54)
  have hB := Bld.start w
  have hsz1 := alloc_lt' w (.cells #[.pointer none, .slice none 0 0] 54)
  generalize w.alloc (.cells #[.pointer none, .slice none 0 0] 54) = w1 at *
  obtain ⟨bb, hbb⟩ : ∃ z, w.heap.size = z := ⟨_, rfl⟩
  rw [hbb] at hB hsz1 ⊢
  refine TW.seq ?_
  refine TW.seq ?_
  refine TW.reg ?_
  refine WL.op rfl rfl rfl (Go.Proofs.YtlagdgkjpnocfaaGreatDoor.W.quiet_move rfl rfl) ?_
  refine WL.op rfl rfl rfl (Go.Proofs.YtlagdgkjpnocfaaGreatDoor.W.quiet_len rfl rfl (fun W => ln_u W _ _ _)) ?_
  refine WL.op rfl rfl rfl (Go.Proofs.YtlagdgkjpnocfaaGreatDoor.W.quiet_move rfl rfl) ?_
  refine WL.nil ?_
  refine TW.block ?_
  refine TW.loop (t := 12) (n := l.length) (fun j b W => ∃ v, Kn Tryz.f14.ntmps [(12, .int .i64 ((j : Nat) : Int)), (11, .int .i64 (l.length : Int)), (10, .slice a l.length c), (4, .pointer (some ⟨bb, 0, none⟩))] b ∧ Bld W bb bb v (txT l j) ∧ Fr (fun _ => False) w W ∧ bb ≤ W.heap.size) (fun j b wr h => by obtain ⟨_, h, _⟩ := h; exact h.has 12 _ rfl) (fun b h => ⟨_, (by (repeat (refine Kn.cons h rfl ?_)); exact h.base), hB, f1, by omega⟩) ?_
  clear hB f1 hsz1 w1
  rintro j b W hj ⟨v, hkn, hB, hf, hsz⟩
  refine TW.app ?_ hkn
  clear hkn b
  refine TW.sreg ?_
  refine WL.op rfl rfl rfl (Go.Proofs.YtlagdgkjpnocfaaGreatDoor.W.quiet_bin rfl rfl rfl (fun W => bn_lt2 W _ _ _ _)) ?_
  refine WL.nil ?_
  refine TW.seq ?_
  refine TW.cond rfl (fun hlt => ?_) (fun hge => ?_)
  · have hlt' : j < l.length := by have := of_decide_eq_true hlt; omega
    obtain ⟨g, o, rfl, hc⟩ := hat j hlt'
    have hx := hu j hlt'
    have htl := htxl j (by omega)
    have hll := wl_len (a := 4 * j) (u := l.getD j 0) (by omega) hx
    refine TW.skip ?_
    refine TW.seq ?_
    refine TW.block ?_
    refine TW.sreg ?_
    refine WL.op rfl rfl rfl (Go.Proofs.YtlagdgkjpnocfaaGreatDoor.W.quiet_move rfl rfl) ?_
    refine WL.op rfl rfl rfl (Go.Proofs.YtlagdgkjpnocfaaGreatDoor.W.quiet_index rfl rfl rfl (fun W => ix_u W g o l.length c j hlt')) ?_
    refine WL.ld rfl rfl rfl rfl rfl (ld_u _ _ _ (hf.cell hc id)) ?_
    refine WL.op rfl rfl rfl (Go.Proofs.YtlagdgkjpnocfaaGreatDoor.W.quiet_assign rfl rfl) ?_
    refine WL.op rfl rfl rfl (Go.Proofs.YtlagdgkjpnocfaaGreatDoor.W.quiet_assign rfl rfl) ?_
    refine WL.nil ?_
    have hsucc : txT l (j + 1) = txT l j ++ wlT (4 * j) (l.getD j 0) := rfl
    generalize l.getD j 0 = u at *
    refine TW.reg ?_
    refine WL.op rfl rfl rfl (Go.Proofs.YtlagdgkjpnocfaaGreatDoor.W.quiet_move rfl rfl) ?_
    refine WL.op rfl rfl rfl (Go.Proofs.YtlagdgkjpnocfaaGreatDoor.W.quiet_bin rfl rfl rfl (fun W => (bn_mul W _ _ (j : Int) 4 (by omega) (by omega)).trans (by rw [show (j : Int) * 4 = ((4 * j : Nat) : Int) by omega]))) ?_
    refine WL.op rfl rfl rfl (Go.Proofs.YtlagdgkjpnocfaaGreatDoor.W.quiet_move rfl rfl) ?_
    refine WL.call (hr := t_wline (4 * j) u (by omega) hx W (ht.fr hf id) (hf.cell hd id)) rfl rfl rfl rfl rfl (fun W => cf_wl W _) ?_
    rintro e W2 ⟨rfl, f2⟩
    refine ⟨_, rfl, ?_⟩
    have hB2 := hB.fr f2 id (fun _ _ => id)
    have hf2 := hf.trans f2
    refine WL.call (hr := wr_any bb bb v _ ⟨(wlT (4 * j) u).toArray⟩ W2 hB2 (by simp [ByteArray.size]; omega) (by have := f2.size; omega)) rfl rfl rfl rfl rfl (fun W => cf_ws W _) ?_
    rintro e W3 ⟨rfl, v', hB3, f3, _⟩
    refine ⟨_, rfl, ?_⟩
    refine WL.end ?_
    have hf3 : Fr (fun _ => False) w W3 := hf2.trans' f3 (fun q hq e => by
      rcases e with e | e
      · omega
      · have := (World.ownsRow.lt hB2.row q e).1; omega)
    have hs3 := f3.size
    have hs2 := f2.size
    repeat (with_reducible refine Xw.nblk ?_)
    refine Xw.nrm ?_
    refine TW.reg ?_
    refine WL.op rfl rfl rfl (Go.Proofs.YtlagdgkjpnocfaaGreatDoor.W.quiet_bin rfl rfl rfl (fun W => bn_add2 W _ _ (j : Int) 1 (by omega) (by omega))) ?_
    refine WL.op rfl rfl rfl (Go.Proofs.YtlagdgkjpnocfaaGreatDoor.W.quiet_move rfl rfl) ?_
    refine WL.end ?_
    refine Xw.any fun b h => ⟨j + 1, by omega, by omega, v', (by (repeat (refine Kn.cons h rfl ?_)); exact h.base), by rw [hsucc]; exact hB3, hf3, by omega⟩
  · have hjn : j = l.length := by have := of_decide_eq_false hge; omega
    refine TW.exit ?_
    repeat (with_reducible refine Xw.thn (by simp) ?_)
    refine Xw.hit ?_
    refine Xw.nrm ?_
    refine TW.sreg ?_
    refine WL.call (hr := str_any bb bb v _ W hB hsz) rfl rfl rfl rfl rfl (fun W => cf_str W _) ?_
    rintro e W2 ⟨rfl, f2⟩
    refine ⟨_, rfl, ?_⟩
    refine WL.op rfl rfl rfl (Go.Proofs.YtlagdgkjpnocfaaGreatDoor.W.quiet_assign rfl rfl) ?_
    refine WL.op rfl rfl rfl (Go.Proofs.YtlagdgkjpnocfaaGreatDoor.W.quiet_assign rfl rfl) ?_
    refine WL.nil ?_
    refine TW.rt ?_
    repeat (with_reducible first | refine Xw.thn (by simp) ?_ | refine Xw.rblk ?_)
    refine bodyw_ret2 rfl rfl rfl ?_
    exact ⟨by rw [hjn], hf.trans' f2 (fun q hq e => by omega)⟩
end Go.Proofs.YtlagdgkjpnocfaaGreatDoor
