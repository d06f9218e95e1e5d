/-
  Listing (layer 6): what a line's instruction lies within. Listing (layer 6): Words of too many bytes. Listing (layer 6): the page's examples. Listing (layer 6): the page's examples hold, walked. Listing (layer 6): more words, or bytes, than may be are refused, walked.
-/
import Derived.Test.YtlagdgkjpnocfaaGreatDoorQLsM
import Derived.Test.YtlagdgkjpnocfaaGreatDoorQFr
namespace Go.Proofs.YtlagdgkjpnocfaaGreatDoor
open Go.RowKit
set_option linter.unusedVariables false
set_option linter.unusedSimpArgs false
theorem z_64 : I64 0 := ⟨by decide, by decide⟩
theorem num_64 (s : List UInt8) : I64 (numR s).1 := by
  unfold numR
  cases h : Lib.atoiAll s with
  | ok v =>
    show I64 v
    unfold I64
    cases s with
    | nil => simp [Lib.atoiAll] at h
    | cons c r =>
      unfold Lib.atoiAll at h
      simp only at h
      generalize Lib.parseMag (if c.toNat = 43 ∨ c.toNat = 45 then r else c :: r) = z at h
      cases z with
      | «syntax» => cases h
      | range => cases h
      | ok u =>
        simp only at h
        split at h
        · cases h
        · split at h
          · cases h
          · injection h with h
            subst h
            split <;> omega
  | «syntax» => exact z_64
  | range =>
    show I64 (Lib.atoiSat s)
    unfold Lib.atoiSat I64
    split <;> omega
theorem reg_64 {s : List UInt8} {r : Int × Bool} (h : regR s = some r) : I64 r.1 := by
  unfold regR at h
  split at h
  · injection h with h
    subst h
    exact num_64 _
  · cases h
def Ok5 (i : I5) : Prop := I64 i.rd ∧ I64 i.r1 ∧ I64 i.r2 ∧ I64 i.imm
theorem mem_64 (s : List UInt8) (i : I5) (h : Ok5 i) : Ok5 (memR s i).1 ∧ (memR s i).1.op = i.op := by
  obtain ⟨a, b, c, d⟩ := h
  have hn := num_64 (Lib.cut s [40]).1
  unfold memR
  simp only
  split
  · split
    · cases hr : regR (Lib.trimSuffix (Lib.cut s [40]).2.1 [41]) with
      | none => exact ⟨⟨a, b, c, hn⟩, rfl⟩
      | some r => exact ⟨⟨a, reg_64 hr, c, hn⟩, rfl⟩
    · exact ⟨⟨a, b, c, hn⟩, rfl⟩
  · exact ⟨⟨a, b, c, d⟩, rfl⟩
theorem opR_64 (o : UInt8) (s : List UInt8) (i : I5) (h : Ok5 i) : Ok5 (opR o s i).1 ∧ (opR o s i).1.op = i.op := by
  have hm := mem_64 s i h
  have hn := num_64 s
  obtain ⟨a, b, c, d⟩ := h
  unfold opR
  cases hr : regR s with
  | none =>
    split
    · exact ⟨⟨a, b, c, d⟩, rfl⟩
    split
    · exact ⟨⟨a, b, c, d⟩, rfl⟩
    split
    · exact ⟨⟨a, b, c, d⟩, rfl⟩
    split
    · exact hm
    · exact ⟨⟨a, b, c, hn⟩, rfl⟩
  | some r =>
    have h := reg_64 hr
    split
    · exact ⟨⟨h, b, c, d⟩, rfl⟩
    split
    · exact ⟨⟨a, h, c, d⟩, rfl⟩
    split
    · exact ⟨⟨a, b, h, d⟩, rfl⟩
    split
    · exact hm
    · exact ⟨⟨a, b, c, hn⟩, rfl⟩
theorem ldR_64 : ∀ (os : List UInt8) (ps : List (List UInt8)) (i j : I5), ldR os ps i = some j → Ok5 i → Ok5 j ∧ j.op = i.op
  | [], _, i, j, h, hi => by
    unfold ldR at h
    injection h with h
    subst h
    exact ⟨hi, rfl⟩
  | o :: os, [], i, j, h, hi => by
    unfold ldR at h
    injection h with h
    subst h
    exact ⟨hi, rfl⟩
  | o :: os, p :: ps, i, j, h, hi => by
    unfold ldR at h
    split at h
    · obtain ⟨q1, q2⟩ := opR_64 o p i hi
      obtain ⟨q3, q4⟩ := ldR_64 os ps _ j h q1
      exact ⟨q3, q4.trans q2⟩
    · cases h
theorem spl_pos (sep : ByteArray) (k : Nat) (s : ByteArray) : 0 < (Lib.splitB sep 0 k s).length := by
  cases k with
  | zero => simp [Lib.splitB]
  | succ k =>
    unfold Lib.splitB
    split <;> simp
theorem parse_64 {s : List UInt8} {i : I5} (h : parseR s = some i) : I64 i.rd ∧ I64 i.r1 ∧ I64 i.r2 ∧ I64 i.imm ∧ 0 < (layT i.op).length := by
  unfold parseR at h
  simp only at h
  split at h
  · cases h
  · rename_i hc
    obtain ⟨⟨a, b, c, d⟩, e⟩ := ldR_64 _ _ _ _ h ⟨z_64, z_64, z_64, z_64⟩
    refine ⟨a, b, c, d, ?_⟩
    rw [e]
    show 0 < (layT (opF (Lib.cut s [32]).1 1)).length
    have hp : 0 < (prtsR (Lib.cut s [32]).2.1 ((layT (opF (Lib.cut s [32]).1 1)).length + 1)).length := by
      unfold prtsR
      rw [List.length_map]
      exact spl_pos _ _ _
    omega
/-- Read, of any line. -/
theorem t_read (s : List UInt8) (hs : s.length ≤ 1000000) (w : World) (he : ErW w) (hm : MlW w) (ht : TabW w) : Calls Tryz.prog 11 #[bts s] w fun e w' => e = .returned (RdV (readT s)) ∧ Fr (fun _ => False) w w' := t_Read s hs (fun i h => parse_64 h) w he hm ht
set_option maxRecDepth 100000 in
/-- Words: too many bytes. -/
theorem t_words_long (s : List UInt8) (h : 2097152 < s.length) (w : World) : Calls Tryz.prog 15 #[bts s] w fun e w' => e = .returned (.tuple #[.slice none 0 0, .int .i64 2]) ∧ w = w' := by
  refine calls_tw Tryz.func15 rfl rfl (Nat.le_of_ble_eq_true rfl) ?_
  refine TW.sreg ?_
  refine WL.op rfl rfl rfl (Go.Proofs.YtlagdgkjpnocfaaGreatDoor.W.quiet_assign rfl rfl) ?_
  refine WL.op rfl rfl rfl (Go.Proofs.YtlagdgkjpnocfaaGreatDoor.W.quiet_assign rfl rfl) ?_
  refine WL.nil ?_
  refine TW.seq ?_
  refine TW.sreg ?_
  refine WL.op rfl rfl rfl (Go.Proofs.YtlagdgkjpnocfaaGreatDoor.W.quiet_move rfl rfl) ?_
  refine WL.lns rfl rfl rfl rfl rfl (ln_str _ _) ?_
  refine WL.op rfl rfl rfl (Go.Proofs.YtlagdgkjpnocfaaGreatDoor.W.quiet_bin rfl rfl rfl (fun W => (bn_gti W _ _ _ _).trans (by rw [decide_eq_true (by omega)]))) ?_
  refine WL.nil ?_
  refine TW.cond rfl (fun _ => ?_) (fun hb => by cases hb)
  refine TW.sreg ?_
  refine WL.op rfl rfl rfl (Go.Proofs.YtlagdgkjpnocfaaGreatDoor.W.quiet_assign rfl rfl) ?_
  refine WL.op rfl rfl rfl (Go.Proofs.YtlagdgkjpnocfaaGreatDoor.W.quiet_assign rfl rfl) ?_
  refine WL.nil ?_
  refine TW.rt ?_
  repeat (with_reducible first | refine Xw.thn (by simp) ?_ | refine Xw.rblk ?_)
  refine bodyw_ret2 rfl rfl rfl ?_
  exact ⟨rfl, rfl⟩
set_option maxRecDepth 100000
theorem ex_fit : fitsB 0 1 2 8 (fm (ix 18)) = true := by decide +kernel
theorem ex_line : lineT 18 0 1 2 8 = [115, 119, 32, 120, 50, 44, 32, 56, 40, 120, 49, 41] := by decide +kernel
theorem ex_text : txT [5243027, 0] 2 = [48, 48, 48, 48, 48, 48, 48, 48, 58, 32, 97, 100, 100, 105, 32, 120, 49, 44, 32, 120, 48, 44, 32, 53, 10, 48, 48, 48, 48, 48, 48, 48, 52, 58, 32, 46, 119, 111, 114, 100, 32, 48, 120, 48, 48, 48, 48, 48, 48, 48, 48, 10] := by decide +kernel
theorem ex_read : readT [108, 119, 32, 120, 54, 44, 32, 45, 52, 40, 120, 50, 41] = some ⟨13, 6, 2, 0, -4⟩ := by
  have hp : parseR [108, 119, 32, 120, 54, 44, 32, 45, 52, 40, 120, 50, 41] = some ⟨13, 6, 2, 0, -4⟩ := by kernel_rfl
  have hl : lineT 13 6 2 0 (-4) = [108, 119, 32, 120, 54, 44, 32, 45, 52, 40, 120, 50, 41] := by decide +kernel
  have hf : fitsB 6 2 0 (-4) (fm (ix 13)) = true := by decide +kernel
  unfold readT
  rw [hp]
  exact if_pos ⟨hf, hl⟩
theorem bd_l (w : World) : (Instr.build 23 #[(0, .int .i64 18), (2, .int .i64 1), (3, .int .i64 2), (4, .int .i64 8)]).run Tryz.prog w = .ok (.agg #[.int .i64 18, .int .i64 0, .int .i64 1, .int .i64 2, .int .i64 8]) w := by simp [go_sem]
theorem bd_r (w : World) : (Instr.build 23 #[(0, .int .i64 13), (1, .int .i64 6), (2, .int .i64 2), (4, .int .i64 (-4))]).run Tryz.prog w = .ok (.agg #[.int .i64 13, .int .i64 6, .int .i64 2, .int .i64 0, .int .i64 (-4)]) w := by simp [go_sem]
theorem bs_w (w : World) : (Instr.buildSlice 35 2 #[(0, .int .u32 5243027), (1, .int .u32 0)]).run Tryz.prog w = .ok (.slice (some ⟨w.heap.size, 0, none⟩) 2 2) (w.alloc (.cells #[.int .u32 5243027, .int .u32 0] 40)) := by simp [go_sem]
theorem bn_eqE (w : World) (x y : Operand) (m n : Int) : (do eqGuard .eql 24 x y (.int .i64 m) (.int .i64 n); binOp .eql 24 (.int .i64 m) (.int .i64 n) : Sem Value).run Tryz.prog w = .ok (.bool (m == n)) w := by simp [go_sem]
theorem bn_eqI (w : World) (x y : Operand) : (do eqGuard .eql 23 x y (.agg #[.int .i64 13, .int .i64 6, .int .i64 2, .int .i64 0, .int .i64 (-4)]) (.agg #[.int .i64 13, .int .i64 6, .int .i64 2, .int .i64 0, .int .i64 (-4)]); binOp .eql 23 (.agg #[.int .i64 13, .int .i64 6, .int .i64 2, .int .i64 0, .int .i64 (-4)]) (.agg #[.int .i64 13, .int .i64 6, .int .i64 2, .int .i64 0, .int .i64 (-4)]) : Sem Value).run Tryz.prog w = .ok (.bool true) w := by simp [go_sem]
theorem qk_listing_Line (w : World) (vs : Array Value) : (callFunc 8 vs).run Tryz.prog w = .ok (.enter 8 vs) w := by simp [go_sem]
theorem qk_listing_Text (w : World) (vs : Array Value) : (callFunc 14 vs).run Tryz.prog w = .ok (.enter 14 vs) w := by simp [go_sem]
theorem qk_listing_Read (w : World) (vs : Array Value) : (callFunc 11 vs).run Tryz.prog w = .ok (.enter 11 vs) w := by simp [go_sem]
theorem qb_eql_api_Errno (w : World) (x y : Operand) (m n : Int) : ((do eqGuard .eql 24 x y (.int .i64 m) (.int .i64 n); binOp .eql 24 (.int .i64 m) (.int .i64 n) : Sem Value)).run Tryz.prog w = .ok (.bool (m == n)) w := by simp [go_sem]
theorem bn_eqst (w : World) (x y : Operand) (a : List UInt8) : (do eqGuard .eql 9 x y (bts a) (bts a); binOp .eql 9 (bts a) (bts a) : Sem Value).run Tryz.prog w = .ok (.bool true) w := by
  rw [bn_eqs]; simp
set_option maxRecDepth 100000 in
theorem t_awake (w : World) (he : ErW w) (hm : MlW w) (ht : TabW w) (hd : DbW w) (hgl : 7 < w.heap.size) : Calls Tryz.prog 10 #[] w fun e w' => e = .returned (.bool true) ∧ Fr (fun _ => False) w w' := by
  have KL := t_Line 18 0 1 2 8 z_64 ⟨by decide, by decide⟩ ⟨by decide, by decide⟩ ⟨by decide, by decide⟩ w ht (fun _ => by decide +kernel)
  rw [ex_fit, if_pos rfl, ex_line] at KL
  refine calls_tw Tryz.func10 rfl rfl (Nat.le_of_ble_eq_true rfl) ?_
  refine TW.sreg ?_
  refine WL.op rfl rfl rfl (Go.Proofs.YtlagdgkjpnocfaaGreatDoor.W.quiet_assign rfl rfl) ?_
  refine WL.nil ?_
  refine TW.sreg ?_
  refine O.bld rfl rfl rfl rfl rfl (bd_l _) ?_
  refine WL.call (hr := KL) rfl rfl rfl rfl rfl (fun W => qk_listing_Line W _) ?_
  rintro e w1 ⟨rfl, f1⟩
  refine ⟨_, rfl, ?_⟩
  refine WL.op rfl rfl rfl (Go.Proofs.YtlagdgkjpnocfaaGreatDoor.W.quiet_move rfl rfl) ?_
  refine O.ext rfl rfl rfl rfl rfl rfl ?_
  refine O.ext rfl rfl rfl rfl rfl rfl ?_
  refine WL.op rfl rfl rfl (Go.Proofs.YtlagdgkjpnocfaaGreatDoor.W.quiet_assign rfl rfl) ?_
  refine WL.op rfl rfl rfl (Go.Proofs.YtlagdgkjpnocfaaGreatDoor.W.quiet_assign rfl rfl) ?_
  refine WL.nil ?_
  refine TW.sreg ?_
  refine O.bsl rfl rfl rfl rfl rfl (bs_w _) ?_
  have f2 := fr_al (Fr.refl (fun _ => False) w1) (.cells #[.int .u32 5243027, .int .u32 0] 40)
  have C := fun j y h => fcell w1 #[.int .u32 5243027, .int .u32 0] 40 j y h
  have c0 := C 0 _ rfl
  have c1 := C 1 _ rfl
  clear C
  replace f1 := f1.trans f2
  clear f2
  generalize w1.alloc (.cells #[.int .u32 5243027, .int .u32 0] 40) = w2 at *
  generalize w1.heap.size = bs at *
  have hat : U32At w2 (some ⟨bs, 0, none⟩) [5243027, 0] := fun k hk => ⟨bs, 0, rfl, by
      match k, hk with
      | 0, _ => exact c0
      | 1, _ => exact c1⟩
  have KT := t_text (some ⟨bs, 0, none⟩) 2 [5243027, 0] (by decide) (fun k hk => by
      match k, hk with
      | 0, _ => decide
      | 1, _ => decide) w2 hat (ht.fr f1 id) (f1.cell hd id) (by have := f1.size; omega)
  rw [show ([5243027, 0] : List Nat).length = 2 from rfl, ex_text] at KT
  -- world w2
  refine WL.call (hr := KT) rfl rfl rfl rfl rfl (fun W => qk_listing_Text W _) ?_
  rintro e w3 ⟨rfl, f3⟩
  refine ⟨_, rfl, ?_⟩
  replace f1 := f1.trans f3
  have KR := t_read [108, 119, 32, 120, 54, 44, 32, 45, 52, 40, 120, 50, 41] (by decide) w3 (he.fr f1 id id) (hm.fr f1 id) (ht.fr f1 id)
  rw [ex_read] at KR
  refine WL.op rfl rfl rfl (Go.Proofs.YtlagdgkjpnocfaaGreatDoor.W.quiet_move rfl rfl) ?_
  refine O.ext rfl rfl rfl rfl rfl rfl ?_
  refine O.ext rfl rfl rfl rfl rfl rfl ?_
  refine WL.op rfl rfl rfl (Go.Proofs.YtlagdgkjpnocfaaGreatDoor.W.quiet_assign rfl rfl) ?_
  refine WL.op rfl rfl rfl (Go.Proofs.YtlagdgkjpnocfaaGreatDoor.W.quiet_assign rfl rfl) ?_
  refine WL.nil ?_
  refine TW.sreg ?_
  refine WL.call (hr := KR) rfl rfl rfl rfl rfl (fun W => qk_listing_Read W _) ?_
  rintro e w4 ⟨rfl, f4⟩
  refine ⟨.tuple #[.agg #[.int .i64 13, .int .i64 6, .int .i64 2, .int .i64 0, .int .i64 (-4)], .int .i64 0], rfl, ?_⟩
  replace f1 := f1.trans f4
  refine WL.op rfl rfl rfl (Go.Proofs.YtlagdgkjpnocfaaGreatDoor.W.quiet_move rfl rfl) ?_
  refine O.ext rfl rfl rfl rfl rfl rfl ?_
  refine O.ext rfl rfl rfl rfl rfl rfl ?_
  refine WL.alloc rfl rfl rfl rfl (pal_ins _) ?_
  have f5 := fr_al (Fr.refl (fun _ => False) w4) (.cells #[.int .i64 0, .int .i64 0, .int .i64 0, .int .i64 0, .int .i64 0] 23)
  have r4 : RwL (w4.alloc (.cells #[.int .i64 0, .int .i64 0, .int .i64 0, .int .i64 0, .int .i64 0] 23)) w4.heap.size #[.int .i64 0, .int .i64 0, .int .i64 0, .int .i64 0, .int .i64 0] 23 := heap_alloc_new w4 _
  generalize w4.alloc (.cells #[.int .i64 0, .int .i64 0, .int .i64 0, .int .i64 0, .int .i64 0] 23) = w5 at *
  obtain ⟨b4, hb4⟩ : ∃ z, w4.heap.size = z := ⟨_, rfl⟩
  rw [hb4] at r4 ⊢
  obtain ⟨w6, s6, q6, f6⟩ := st_ins w5 b4 _ _ _ _ _ 13 6 2 0 (-4) r4
  -- world w6
  refine WL.store rfl rfl rfl rfl rfl s6 ?_
  have ff : Fr (fun _ => False) w w6 := (f1.trans f5).trans' f6 (fun q hq e => by have := f1.size; omega)
  refine WL.op rfl rfl rfl (Go.Proofs.YtlagdgkjpnocfaaGreatDoor.W.quiet_assign rfl rfl) ?_
  refine WL.nil ?_
  refine TW.sreg ?_
  refine WL.op rfl rfl rfl (Go.Proofs.YtlagdgkjpnocfaaGreatDoor.W.quiet_move rfl rfl) ?_
  refine WL.op rfl rfl rfl (Go.Proofs.YtlagdgkjpnocfaaGreatDoor.W.quiet_bin rfl rfl rfl (fun W => qb_eql_api_Errno W _ _ _ _)) ?_
  refine O.split (fun hb => ?_) (fun hb => by exfalso; revert hb; first | (simp; done) | (simp; omega))
  refine WL.op rfl rfl rfl (Go.Proofs.YtlagdgkjpnocfaaGreatDoor.W.quiet_move rfl rfl) ?_
  refine WL.op rfl rfl rfl (Go.Proofs.YtlagdgkjpnocfaaGreatDoor.W.quiet_move rfl rfl) ?_
  refine WL.op rfl rfl rfl (Go.Proofs.YtlagdgkjpnocfaaGreatDoor.W.quiet_bin rfl rfl rfl (fun W => qb_eql_api_Errno W _ _ _ _)) ?_
  refine O.split (fun hb => ?_) (fun hb => by exfalso; revert hb; first | (simp; done) | (simp; omega))
  refine WL.op rfl rfl rfl (Go.Proofs.YtlagdgkjpnocfaaGreatDoor.W.quiet_pick rfl rfl rfl) ?_
  refine WL.op rfl rfl rfl (Go.Proofs.YtlagdgkjpnocfaaGreatDoor.W.quiet_move rfl rfl) ?_
  refine WL.op rfl rfl rfl (Go.Proofs.YtlagdgkjpnocfaaGreatDoor.W.quiet_move rfl rfl) ?_
  refine WL.op rfl rfl rfl (Go.Proofs.YtlagdgkjpnocfaaGreatDoor.W.quiet_bin rfl rfl rfl (fun W => qb_eql_api_Errno W _ _ _ _)) ?_
  refine O.split (fun hb => ?_) (fun hb => by exfalso; revert hb; first | (simp; done) | (simp; omega))
  refine WL.op rfl rfl rfl (Go.Proofs.YtlagdgkjpnocfaaGreatDoor.W.quiet_pick rfl rfl rfl) ?_
  refine WL.op rfl rfl rfl (Go.Proofs.YtlagdgkjpnocfaaGreatDoor.W.quiet_move rfl rfl) ?_
  refine WL.op rfl rfl rfl (Go.Proofs.YtlagdgkjpnocfaaGreatDoor.W.quiet_move rfl rfl) ?_
  refine WL.op rfl rfl rfl (Go.Proofs.YtlagdgkjpnocfaaGreatDoor.W.quiet_bin rfl rfl rfl (fun W => bn_eqst W _ _ _)) ?_
  refine O.split (fun hb => ?_) (fun hb => by exfalso; revert hb; first | (simp; done) | (simp; omega))
  refine WL.op rfl rfl rfl (Go.Proofs.YtlagdgkjpnocfaaGreatDoor.W.quiet_pick rfl rfl rfl) ?_
  refine WL.op rfl rfl rfl (Go.Proofs.YtlagdgkjpnocfaaGreatDoor.W.quiet_move rfl rfl) ?_
  refine WL.op rfl rfl rfl (Go.Proofs.YtlagdgkjpnocfaaGreatDoor.W.quiet_move rfl rfl) ?_
  refine WL.op rfl rfl rfl (Go.Proofs.YtlagdgkjpnocfaaGreatDoor.W.quiet_bin rfl rfl rfl (fun W => bn_eqst W _ _ _)) ?_
  refine O.split (fun hb => ?_) (fun hb => by exfalso; revert hb; first | (simp; done) | (simp; omega))
  refine WL.op rfl rfl rfl (Go.Proofs.YtlagdgkjpnocfaaGreatDoor.W.quiet_pick rfl rfl rfl) ?_
  refine WL.op rfl rfl rfl (Go.Proofs.YtlagdgkjpnocfaaGreatDoor.W.quiet_move rfl rfl) ?_
  refine WL.ld rfl rfl rfl rfl rfl (ldins _ _ _ _ _ _ _ _ (q6.cell (j := 0) rfl) (by rw [Nat.zero_add]; exact q6.cell (j := 1) rfl) (by rw [Nat.zero_add]; exact q6.cell (j := 2) rfl) (by rw [Nat.zero_add]; exact q6.cell (j := 3) rfl) (by rw [Nat.zero_add]; exact q6.cell (j := 4) rfl)) ?_
  refine O.bld rfl rfl rfl rfl rfl (bd_r _) ?_
  refine WL.op rfl rfl rfl (Go.Proofs.YtlagdgkjpnocfaaGreatDoor.W.quiet_bin rfl rfl rfl (fun W => bn_eqI W _ _)) ?_
  refine O.split (fun hb => ?_) (fun hb => by exfalso; revert hb; first | (simp; done) | (simp; omega))
  refine WL.op rfl rfl rfl (Go.Proofs.YtlagdgkjpnocfaaGreatDoor.W.quiet_pick rfl rfl rfl) ?_
  refine WL.op rfl rfl rfl (Go.Proofs.YtlagdgkjpnocfaaGreatDoor.W.quiet_assign rfl rfl) ?_
  refine WL.nil ?_
  refine TW.rt ?_
  refine bodyw_ret rfl rfl ?_
  exact ⟨rfl, ff⟩
theorem qb_rem_int (w : World) (x y : Operand) (m n : Int) (hn : n ≠ 0) (h0 : -9223372036854775808 ≤ m.tmod n) (h1 : m.tmod n ≤ 9223372036854775807) : ((do eqGuard .rem 3 x y (.int .i64 m) (.int .i64 n); binOp .rem 3 (.int .i64 m) (.int .i64 n) : Sem Value)).run Tryz.prog w = .ok (.int .i64 (m.tmod n)) w := by
  have h : IntKind.i64.wrap (m.tmod n) = m.tmod n := IntWalk.i64_in _ (by omega)
  simp [go_sem, h, hn]
theorem qb_add_int (w : World) (x y : Operand) (m n : Int) (h0 : -9223372036854775808 ≤ m + n) (h1 : m + n ≤ 9223372036854775807) : ((do eqGuard .add 3 x y (.int .i64 m) (.int .i64 n); binOp .add 3 (.int .i64 m) (.int .i64 n) : Sem Value)).run Tryz.prog w = .ok (.int .i64 (m + n)) w := by
  have h : IntKind.i64.wrap (m + n) = m + n := IntWalk.i64_in _ (by omega)
  simp [go_sem, h]
theorem qk_listing_Words (w : World) (vs : Array Value) : (callFunc 15 vs).run Tryz.prog w = .ok (.enter 15 vs) w := by simp [go_sem]
theorem qk_rushlightlaw06_awake (w : World) (vs : Array Value) : (callFunc 10 vs).run Tryz.prog w = .ok (.enter 10 vs) w := by simp [go_sem]
theorem qn_s_uint32 (w : World) (a : Option Addr) (k l : Nat) : (Builtin.len_ #[35] 3 #[.slice a k l]).run Tryz.prog w = .ok (.int .i64 k) w := by simp [go_sem]
theorem qb_eql_int (w : World) (x y : Operand) (m n : Int) : ((do eqGuard .eql 3 x y (.int .i64 m) (.int .i64 n); binOp .eql 3 (.int .i64 m) (.int .i64 n) : Sem Value)).run Tryz.prog w = .ok (.bool (m == n)) w := by simp [go_sem]
theorem infoU32 : (Tryz.prog.info? 40).map (fun i => (i.zero, i.size, i.bytes)) = some (some (.int .u32 0), 1, 4) := by kernel_rfl
theorem infoU8 : (Tryz.prog.info? 5).map (fun i => (i.zero, i.size, i.bytes)) = some (some (.int .u8 0), 1, 1) := by kernel_rfl
theorem mk_u32 (n : Nat) (hn : n ≤ 1000000) (w : World) : (Instr.makeSlice 35 (.int .i64 (n : Int)) (.int .i64 (n : Int))).run Tryz.prog w = .ok (.slice (some ⟨w.heap.size, 0, none⟩) n n) (w.alloc (.cells (madeCells #[.int .u32 0] n) 40)) :=
  run_make_row' 35 40 (.int .u32 0) 4 Tryz.underlying35 infoU32 rfl .i64 .i64 n (by omega) (by omega) w
theorem mk_u8 (n : Nat) (hn : n ≤ 10000000) (w : World) : (Instr.makeSlice 42 (.int .i64 (n : Int)) (.int .i64 (n : Int))).run Tryz.prog w = .ok (.slice (some ⟨w.heap.size, 0, none⟩) n n) (w.alloc (.cells (madeCells #[.int .u8 0] n) 5)) :=
  run_make_row' 42 5 (.int .u8 0) 1 Tryz.underlying42 infoU8 rfl .i64 .i64 n (by omega) (by omega) w
theorem cv_by (n : Nat) (w : World) : ∃ s : List UInt8, s.length = n ∧ (convert 42 9 (.slice (some ⟨w.heap.size, 0, none⟩) n n)).run Tryz.prog (w.alloc (.cells (madeCells #[.int .u8 0] n) 5)) = .ok (bts s) (w.alloc (.cells (madeCells #[.int .u8 0] n) 5)) := by
  refine ⟨(List.replicate n (0 : Int)).map fun n => UInt8.ofNat n.toNat, by simp, ?_⟩
  exact run_convert_bytes_arg _ 42 5 Tryz.underlying42 Tryz.underlying5 w.heap.size 0 n n (List.replicate n 0) (by simp) (fun i hi => by
    have hc := fcell w (madeCells #[.int .u8 0] n) 5 i (.int .u8 0) (by
      rw [← Array.getElem?_toList, toList_madeCells_one]
      simp [hi])
    rw [Nat.zero_add]
    rw [hc]
    simp [List.getD, hi]) 9 Tryz.underlying9
set_option maxRecDepth 100000 in
theorem walk_long (a0 : Int) (w : World) (he : ErW w) (hm' : MlW w) (ht : TabW w) (hd : DbW w) (hgl : 7 < w.heap.size) : Calls Tryz.prog 7 #[.int .i64 a0] w fun e w' => e = .returned (.bool true) ∧ Fr (fun _ => False) w w' := by
  refine calls_tw Tryz.func7 rfl rfl (Nat.le_of_ble_eq_true rfl) ?_
  have t0 : -100 < a0.tmod 100 ∧ a0.tmod 100 < 100 := ⟨by have := Int.lt_tmod_of_pos a0 (b := 100) (by omega); omega, Int.tmod_lt_of_pos a0 (by omega)⟩
  have t1 : (a0.tmod 100 + 100).tmod 100 = (a0.tmod 100 + 100) % 100 := Int.tmod_eq_emod_of_nonneg (by omega)
  obtain ⟨m, hm⟩ : ∃ m : Nat, 1 + (a0.tmod 100 + 100).tmod 100 = (m : Int) := ⟨(1 + (a0.tmod 100 + 100).tmod 100).toNat, by omega⟩
  have m1 : 0 < m := by omega
  have m2 : m ≤ 100 := by omega
  refine TW.sreg ?_
  refine WL.op rfl rfl rfl (Go.Proofs.YtlagdgkjpnocfaaGreatDoor.W.quiet_assign rfl rfl) ?_
  refine WL.nil ?_
  refine TW.sreg ?_
  refine WL.op rfl rfl rfl (Go.Proofs.YtlagdgkjpnocfaaGreatDoor.W.quiet_move rfl rfl) ?_
  refine WL.op rfl rfl rfl (Go.Proofs.YtlagdgkjpnocfaaGreatDoor.W.quiet_bin rfl rfl rfl (fun W => qb_rem_int W _ _ _ _ (by decide) (by omega) (by omega))) ?_
  refine WL.op rfl rfl rfl (Go.Proofs.YtlagdgkjpnocfaaGreatDoor.W.quiet_bin rfl rfl rfl (fun W => qb_add_int W _ _ _ _ (by omega) (by omega))) ?_
  refine WL.op rfl rfl rfl (Go.Proofs.YtlagdgkjpnocfaaGreatDoor.W.quiet_bin rfl rfl rfl (fun W => qb_rem_int W _ _ _ _ (by decide) (by omega) (by omega))) ?_
  refine WL.op rfl rfl rfl (Go.Proofs.YtlagdgkjpnocfaaGreatDoor.W.quiet_bin rfl rfl rfl (fun W => (qb_add_int W _ _ _ _ (by omega) (by omega)).trans (by rw [hm]))) ?_
  refine WL.op rfl rfl rfl (Go.Proofs.YtlagdgkjpnocfaaGreatDoor.W.quiet_assign rfl rfl) ?_
  refine WL.nil ?_
  refine TW.sreg ?_
  refine WL.op rfl rfl rfl (Go.Proofs.YtlagdgkjpnocfaaGreatDoor.W.quiet_move rfl rfl) ?_
  refine WL.op rfl rfl rfl (Go.Proofs.YtlagdgkjpnocfaaGreatDoor.W.quiet_bin rfl rfl rfl (fun W => (qb_add_int W _ _ _ _ (by omega) (by omega)).trans (by rw [show (40000 : Int) + (m : Int) = ((40000 + m : Nat) : Int) by omega]))) ?_
  refine O.mk rfl rfl rfl rfl rfl rfl (mk_u32 (40000 + m) (by omega) w) ?_
  have f1 := fr_al (Fr.refl (fun _ => False) w) (.cells (madeCells #[.int .u32 0] (40000 + m)) 40)
  generalize w.alloc (.cells (madeCells #[.int .u32 0] (40000 + m)) 40) = w1 at *
  -- world w1
  refine WL.call (hr := t_text_long _ _ _ (by omega) w1) rfl rfl rfl rfl rfl (fun W => qk_listing_Text W _) ?_
  rintro e w2 ⟨rfl, rfl⟩
  refine ⟨_, rfl, ?_⟩
  refine WL.op rfl rfl rfl (Go.Proofs.YtlagdgkjpnocfaaGreatDoor.W.quiet_move rfl rfl) ?_
  refine O.ext rfl rfl rfl rfl rfl rfl ?_
  refine O.ext rfl rfl rfl rfl rfl rfl ?_
  refine WL.op rfl rfl rfl (Go.Proofs.YtlagdgkjpnocfaaGreatDoor.W.quiet_assign rfl rfl) ?_
  refine WL.op rfl rfl rfl (Go.Proofs.YtlagdgkjpnocfaaGreatDoor.W.quiet_assign rfl rfl) ?_
  refine WL.nil ?_
  refine TW.sreg ?_
  refine WL.op rfl rfl rfl (Go.Proofs.YtlagdgkjpnocfaaGreatDoor.W.quiet_move rfl rfl) ?_
  refine WL.op rfl rfl rfl (Go.Proofs.YtlagdgkjpnocfaaGreatDoor.W.quiet_bin rfl rfl rfl (fun W => (qb_add_int W _ _ _ _ (by omega) (by omega)).trans (by rw [show (2097152 : Int) + (m : Int) = ((2097152 + m : Nat) : Int) by omega]))) ?_
  refine O.mk rfl rfl rfl rfl rfl rfl (mk_u8 (2097152 + m) (by omega) w1) ?_
  obtain ⟨s, hs, hc⟩ := cv_by (2097152 + m) w1
  have f2 := fr_al f1 (.cells (madeCells #[.int .u8 0] (2097152 + m)) 5)
  generalize w1.alloc (.cells (madeCells #[.int .u8 0] (2097152 + m)) 5) = w2 at *
  generalize w1.heap.size = g2 at *
  -- world w2
  refine O.cv rfl rfl rfl rfl rfl hc ?_
  refine WL.call (hr := t_words_long s (by omega) w2) rfl rfl rfl rfl rfl (fun W => qk_listing_Words W _) ?_
  rintro e w3 ⟨rfl, rfl⟩
  refine ⟨_, rfl, ?_⟩
  refine WL.op rfl rfl rfl (Go.Proofs.YtlagdgkjpnocfaaGreatDoor.W.quiet_move rfl rfl) ?_
  refine O.ext rfl rfl rfl rfl rfl rfl ?_
  refine O.ext rfl rfl rfl rfl rfl rfl ?_
  refine WL.op rfl rfl rfl (Go.Proofs.YtlagdgkjpnocfaaGreatDoor.W.quiet_assign rfl rfl) ?_
  refine WL.op rfl rfl rfl (Go.Proofs.YtlagdgkjpnocfaaGreatDoor.W.quiet_assign rfl rfl) ?_
  refine WL.nil ?_
  refine TW.sreg ?_
  refine WL.call (hr := t_awake w2 (he.fr f2 id id) (hm'.fr f2 id) (ht.fr f2 id) (f2.cell hd id) (by have := f2.size; omega)) rfl rfl rfl rfl rfl (fun W => qk_rushlightlaw06_awake W _) ?_
  rintro e w4 ⟨rfl, f3⟩
  refine ⟨_, rfl, ?_⟩
  refine O.split (fun hb => ?_) (fun hb => by exfalso; revert hb; first | (simp; done) | (simp; omega))
  refine WL.op rfl rfl rfl (Go.Proofs.YtlagdgkjpnocfaaGreatDoor.W.quiet_move rfl rfl) ?_
  refine WL.op rfl rfl rfl (Go.Proofs.YtlagdgkjpnocfaaGreatDoor.W.quiet_move rfl rfl) ?_
  refine WL.op rfl rfl rfl (Go.Proofs.YtlagdgkjpnocfaaGreatDoor.W.quiet_bin rfl rfl rfl (fun W => qb_eql_api_Errno W _ _ _ _)) ?_
  refine O.split (fun hb => ?_) (fun hb => by exfalso; revert hb; first | (simp; done) | (simp; omega))
  refine WL.op rfl rfl rfl (Go.Proofs.YtlagdgkjpnocfaaGreatDoor.W.quiet_pick rfl rfl rfl) ?_
  refine WL.op rfl rfl rfl (Go.Proofs.YtlagdgkjpnocfaaGreatDoor.W.quiet_move rfl rfl) ?_
  refine WL.op rfl rfl rfl (Go.Proofs.YtlagdgkjpnocfaaGreatDoor.W.quiet_move rfl rfl) ?_
  refine WL.op rfl rfl rfl (Go.Proofs.YtlagdgkjpnocfaaGreatDoor.W.quiet_bin rfl rfl rfl (fun W => bn_eqst W _ _ _)) ?_
  refine O.split (fun hb => ?_) (fun hb => by exfalso; revert hb; first | (simp; done) | (simp; omega))
  refine WL.op rfl rfl rfl (Go.Proofs.YtlagdgkjpnocfaaGreatDoor.W.quiet_pick rfl rfl rfl) ?_
  refine WL.op rfl rfl rfl (Go.Proofs.YtlagdgkjpnocfaaGreatDoor.W.quiet_move rfl rfl) ?_
  refine WL.op rfl rfl rfl (Go.Proofs.YtlagdgkjpnocfaaGreatDoor.W.quiet_move rfl rfl) ?_
  refine WL.op rfl rfl rfl (Go.Proofs.YtlagdgkjpnocfaaGreatDoor.W.quiet_bin rfl rfl rfl (fun W => qb_eql_api_Errno W _ _ _ _)) ?_
  refine O.split (fun hb => ?_) (fun hb => by exfalso; revert hb; first | (simp; done) | (simp; omega))
  refine WL.op rfl rfl rfl (Go.Proofs.YtlagdgkjpnocfaaGreatDoor.W.quiet_pick rfl rfl rfl) ?_
  refine WL.op rfl rfl rfl (Go.Proofs.YtlagdgkjpnocfaaGreatDoor.W.quiet_move rfl rfl) ?_
  refine WL.op rfl rfl rfl (Go.Proofs.YtlagdgkjpnocfaaGreatDoor.W.quiet_move rfl rfl) ?_
  refine O.len rfl rfl rfl rfl rfl (qn_s_uint32 _ _ _ _) ?_
  refine WL.op rfl rfl rfl (Go.Proofs.YtlagdgkjpnocfaaGreatDoor.W.quiet_bin rfl rfl rfl (fun W => qb_eql_int W _ _ _ _)) ?_
  refine O.split (fun hb => ?_) (fun hb => by exfalso; revert hb; first | (simp; done) | (simp; omega))
  refine WL.op rfl rfl rfl (Go.Proofs.YtlagdgkjpnocfaaGreatDoor.W.quiet_pick rfl rfl rfl) ?_
  refine WL.op rfl rfl rfl (Go.Proofs.YtlagdgkjpnocfaaGreatDoor.W.quiet_assign rfl rfl) ?_
  refine WL.nil ?_
  refine TW.rt ?_
  refine bodyw_ret rfl rfl ?_
  exact ⟨rfl, f2.trans f3⟩
end Go.Proofs.YtlagdgkjpnocfaaGreatDoor
