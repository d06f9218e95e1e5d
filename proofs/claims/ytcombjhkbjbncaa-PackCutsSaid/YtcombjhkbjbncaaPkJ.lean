/-
  Pack (layer 32): numbers and runs that are read.
-/
import Derived.Test.YtcombjhkbjbncaaPkI
import Derived.Deep.OwnRows
namespace Go.Proofs.Ytcombjhkbjbncaa
open Go.RowKit
set_option linter.unusedVariables false
set_option linter.unusedSimpArgs false
set_option linter.unnecessarySimpa false
theorem qc_uint8_uint32 (w : World) (m : Int) (h0 : 0 ≤ m) (h1 : m ≤ 4294967295) : (convert 5 40 (.int .u8 m)).run Try.prog w = .ok (.int .u32 m) w := by
  have h : IntKind.u32.wrap m = m := IntWalk.u32_in _ (by omega)
  simp [go_sem, h]
theorem qc_uint32_uint64 (w : World) (m : Int) (h0 : 0 ≤ m) (h1 : m ≤ 18446744073709551615) : (convert 40 60 (.int .u32 m)).run Try.prog w = .ok (.int .u64 m) w := by
  have h : IntKind.u64.wrap m = m := IntWalk.u64_in _ (by omega)
  simp [go_sem, h]
theorem qc_int_uint64 (w : World) (m : Int) (h0 : 0 ≤ m) (h1 : m ≤ 18446744073709551615) : (convert 3 60 (.int .i64 m)).run Try.prog w = .ok (.int .u64 m) w := by
  have h : IntKind.u64.wrap m = m := IntWalk.u64_in _ (by omega)
  simp [go_sem, h]
theorem qk_pack_reader_take (w : World) (vs : Array Value) : (callFunc 27 vs).run Try.prog w = .ok (.enter 27 vs) w := by simp [go_sem]
theorem qk_pack_reader_word (w : World) (vs : Array Value) : (callFunc 29 vs).run Try.prog w = .ok (.enter 29 vs) w := by simp [go_sem]
theorem qb_leq_uint64 (w : World) (x y : Operand) (m n : Int) : ((do eqGuard .leq 60 x y (.int .u64 m) (.int .u64 n); binOp .leq 60 (.int .u64 m) (.int .u64 n) : Sem Value)).run Try.prog w = .ok (.bool (decide (m ≤ n))) w := by simp [go_sem]
theorem rdNum_short {l : List Int} (h : l.length < 4) : rdNum l = none := by
  match l, h with
  | [], _ => rfl
  | [_], _ => rfl
  | [_, _], _ => rfl
  | [_, _, _], _ => rfl
  | _ :: _ :: _ :: _ :: _, h => simp at h; omega
theorem rdNum_long {l : List Int} (h : 4 ≤ l.length) : rdNum l = some (atL l 0, l.drop 4) := by
  match l, h with
  | a :: b :: c :: d :: r, _ => simp [rdNum, atL]
  | [], h => simp at h
  | [_], h => simp at h
  | [_, _], h => simp at h
  | [_, _, _], h => simp at h
theorem take_get {l : List Int} {n i : Nat} (h : i < n) : (l.take n).getD i 0 = l.getD i 0 := by
  rw [List.getD_eq_getElem?_getD, List.getD_eq_getElem?_getD, List.getElem?_take, if_pos h]
theorem rdNum_byt {l r : List Int} {n : Int} (hb : Byt l) (h : rdNum l = some (n, r)) : 0 ≤ n ∧ n ≤ 4294967295 ∧ Byt r ∧ r.length ≤ l.length := by
  have h4 : 4 ≤ l.length := Nat.not_lt.1 fun q => by rw [rdNum_short q] at h; cases h
  rw [rdNum_long h4] at h
  cases h
  exact ⟨(atL_in hb 0).1, (atL_in hb 0).2, hb.drop 4, by simp⟩
theorem rdMax_byt {l r : List Int} {n m : Int} (hb : Byt l) (h : rdMax m l = some (n, r)) : 0 ≤ n ∧ n ≤ m ∧ Byt r ∧ r.length ≤ l.length := by
  unfold rdMax at h
  cases hn : rdNum l with
  | none => rw [hn] at h; cases h
  | some p =>
    obtain ⟨x, r'⟩ := p
    rw [hn] at h
    simp only [] at h
    split at h
    · rename_i hx
      cases h
      obtain ⟨q0, q1, q2, q3⟩ := rdNum_byt hb hn
      exact ⟨q0, hx, q2, q3⟩
    · cases h
theorem rdRun_len {l x r : List Int} (hb : Byt l) (h : rdRun l = some (x, r)) : 1 ≤ x.length ∧ x.length ≤ 128 ∧ Byt x ∧ Byt r ∧ r.length ≤ l.length := by
  cases l with
  | nil => cases h
  | cons n t =>
    have hn := hb n (by simp)
    have ht : Byt t := fun y hy => hb y (by simp [hy])
    unfold rdRun at h
    simp only [] at h
    split at h
    · cases h
    split at h
    · cases h
      rename_i h1 h2
      refine ⟨by simp; omega, by simp; omega, fun y hy => ?_, ht, by simp⟩
      rw [(List.mem_replicate.1 hy).2]
      exact ⟨by decide, by decide⟩
    · split at h
      · cases h
        rename_i h1 h2 h3
        exact ⟨by rw [List.length_take]; omega, by rw [List.length_take]; omega, ht.take _, ht.drop _, by simp; omega⟩
      · cases h
theorem made_num {w : World} {g n : Nat} (h : Bx w g (madeCells #[.int .u8 0] n) 5) : NumAt .u8 w.heap.size w (some ⟨g, 0, none⟩) (List.replicate n 0) := fun i hi => ⟨g, 0, rfl, h.lt, by
  rw [Nat.zero_add]
  refine h.cell ?_
  rw [List.length_replicate] at hi
  rw [← Array.getElem?_toList, toList_madeCells_one, List.getElem?_replicate, if_pos hi, List.getD_eq_getElem?_getD, List.getElem?_replicate, if_pos hi]
  rfl⟩
theorem mk_8 (n : Nat) (hn : n ≤ 1000000) (w : World) : (Instr.makeSlice 23 (.int .i64 (n : Int)) (.int .i64 (n : Int))).run Try.prog w = .ok (.slice (some ⟨w.heap.size, 0, none⟩) n n) (w.alloc (.cells (madeCells #[.int .u8 0] n) 5)) :=
  run_make_row' 23 5 (.int .u8 0) 1 Try.underlying23 info8 rfl .i64 .i64 n (by omega) (by omega) w
theorem rdRun_nil {l : List Int} (h : l.length < 1) : rdRun l = none := by
  have : l = [] := List.eq_nil_of_length_eq_zero (by omega)
  rw [this]; rfl
theorem rdRun_0 {l : List Int} (h1 : 1 ≤ l.length) (h : ¬0 < l.getD 0 0) : rdRun l = none := by
  cases l with
  | nil => simp at h1
  | cons n r =>
    have h' : ¬0 < n := by simpa using h
    unfold rdRun
    simp only []
    rw [if_pos (by omega)]
theorem rdRun_1 {l : List Int} (h1 : 1 ≤ l.length) (h : 127 < l.getD 0 0) : rdRun l = some (List.replicate (l.getD 0 0 - 127).toNat 0, l.drop 1) := by
  cases l with
  | nil => simp at h1
  | cons n r =>
    have h' : 127 < n := by simpa using h
    unfold rdRun
    simp only []
    rw [if_neg (by omega), if_pos h']
    simp
theorem rdRun_2 {l : List Int} (h1 : 1 ≤ l.length) (h0 : 0 < l.getD 0 0) (h : ¬127 < l.getD 0 0) : rdRun l = if l.getD 0 0 ≤ (l.drop 1).length then some ((l.drop 1).take (l.getD 0 0).toNat, (l.drop 1).drop (l.getD 0 0).toNat) else none := by
  cases l with
  | nil => simp at h1
  | cons n r =>
    have h0' : 0 < n := by simpa using h0
    have h' : ¬127 < n := by simpa using h
    unfold rdRun
    simp only []
    rw [if_neg (by omega), if_neg h']
    simp
set_option maxRecDepth 100000 in
theorem t_word (Z g : Nat) (hZ : Z ≤ g) (a : Option Addr) (c : Nat) (l : List Int) (hll : l.length ≤ 300000) (hc : l.length ≤ c) (w : World) (hbx : Bx w g #[.slice a l.length c] 46) (ha : NumAt .u8 Z w a l) (hby : Byt l) : Calls Try.prog 29 #[.pointer (some ⟨g, 0, none⟩)] w fun e w' => (rdNum l = none ∧ e = .panicked malf ∧ Fr (fun q => q = g) w w') ∨ (∃ (n : Int) (r : List Int) (a2 : Option Addr) (c2 : Nat), rdNum l = some (n, r) ∧ e = .returned (.int .u32 n) ∧ Bx w' g #[.slice a2 (r).length c2] 46 ∧ NumAt .u8 Z w' a2 (r) ∧ (r).length ≤ c2 ∧ Fr (fun q => q = g) w w') := by
  have ff := Fr.refl (fun q => q = g) w
  refine calls_tw Try.func29 rfl rfl (Nat.le_of_ble_eq_true rfl) ?_
  refine TW.sreg ?_
  refine WL.op rfl rfl rfl (Go.Proofs.Ytcombjhkbjbncaa.W.quiet_assign rfl rfl) ?_
  refine WL.nil ?_
  refine TW.sreg ?_
  refine WL.op rfl rfl rfl (Go.Proofs.Ytcombjhkbjbncaa.W.quiet_move rfl rfl) ?_
  refine WL.callP (hr := (t_take Z g hZ a c l hll hc _ hbx ha 4)) rfl rfl rfl rfl rfl (fun W => qk_pack_reader_take W _) ?_
  rintro e w1 h9
  rcases h9 with ⟨hp, rfl, f1⟩ | ⟨hn, a2, c2, rfl, hbx2, ha2, he2, hx, f1⟩
  · refine .inr ⟨_, rfl, fun a k => ?_⟩
    exact And.intro k.defers (.inl ⟨rdNum_short hp, rfl, ff.trans' f1 (fun q hq e => e)⟩)
  refine .inl ⟨_, rfl, ?_⟩
  replace ff := ff.trans' f1 (fun q hq e => e)
  clear hbx ha
  have hbx := hbx2
  have ha := ha2
  obtain ⟨ga, oa, rfl, _⟩ := hx.form (by rw [List.length_take]; omega)
  have hb0 := hby.get 0
  have hb1 := hby.get 1
  have hb2 := hby.get 2
  have hb3 := hby.get 3
  have hc0 := hx.at0 (j := 0) (by rw [List.length_take]; omega)
  have hc1 := hx.at0 (j := 1) (by rw [List.length_take]; omega)
  have hc2 := hx.at0 (j := 2) (by rw [List.length_take]; omega)
  have hc3 := hx.at0 (j := 3) (by rw [List.length_take]; omega)
  rw [take_get (by omega)] at hc0
  rw [take_get (by omega)] at hc1
  rw [take_get (by omega)] at hc2
  rw [take_get (by omega)] at hc3
  refine WL.op rfl rfl rfl (Go.Proofs.Ytcombjhkbjbncaa.W.quiet_assign rfl rfl) ?_
  refine WL.nil ?_
  refine Q.sreg (C := fun W => Fr (fun _ => False) w1 W) (by kernel_rfl) (by kernel_rfl) (fun W h => h.drewN 1) (Fr.refl _ _) ?_
  refine W.op rfl rfl rfl (Go.Proofs.Ytcombjhkbjbncaa.W.quiet_move rfl rfl) ?_
  refine W.op rfl rfl rfl (Go.Proofs.Ytcombjhkbjbncaa.W.quiet_index rfl rfl rfl (fun W => (qi_s_uint8 _ _ _ _ _ 0 (by omega)))) ?_
  refine W.op rfl rfl rfl (Go.Proofs.Ytcombjhkbjbncaa.W.quiet_load rfl rfl (fun W hW => (ql_uint8 _ _ _ (hW.cell hc0 id)))) ?_
  refine W.op rfl rfl rfl (Q.cv rfl rfl (fun W hW => (qc_uint8_uint32 _ _ (by omega) (by omega)))) ?_
  refine W.op rfl rfl rfl (Go.Proofs.Ytcombjhkbjbncaa.W.quiet_move rfl rfl) ?_
  refine W.op rfl rfl rfl (Go.Proofs.Ytcombjhkbjbncaa.W.quiet_index rfl rfl rfl (fun W => (qi_s_uint8 _ _ _ _ _ 1 (by omega)))) ?_
  refine W.op rfl rfl rfl (Go.Proofs.Ytcombjhkbjbncaa.W.quiet_load rfl rfl (fun W hW => (ql_uint8 _ _ _ (hW.cell hc1 id)))) ?_
  refine W.op rfl rfl rfl (Q.cv rfl rfl (fun W hW => (qc_uint8_uint32 _ _ (by omega) (by omega)))) ?_
  refine W.op rfl rfl rfl (Go.Proofs.Ytcombjhkbjbncaa.W.quiet_bin rfl rfl rfl (fun W => sl8 W _ _ _ (by omega) (by omega))) ?_
  refine W.op rfl rfl rfl (Go.Proofs.Ytcombjhkbjbncaa.W.quiet_bin rfl rfl rfl (fun W => or8 W _ _ _ _ (by omega) (by omega) (by omega) (by omega))) ?_
  refine W.op rfl rfl rfl (Go.Proofs.Ytcombjhkbjbncaa.W.quiet_move rfl rfl) ?_
  refine W.op rfl rfl rfl (Go.Proofs.Ytcombjhkbjbncaa.W.quiet_index rfl rfl rfl (fun W => (qi_s_uint8 _ _ _ _ _ 2 (by omega)))) ?_
  refine W.op rfl rfl rfl (Go.Proofs.Ytcombjhkbjbncaa.W.quiet_load rfl rfl (fun W hW => (ql_uint8 _ _ _ (hW.cell hc2 id)))) ?_
  refine W.op rfl rfl rfl (Q.cv rfl rfl (fun W hW => (qc_uint8_uint32 _ _ (by omega) (by omega)))) ?_
  refine W.op rfl rfl rfl (Go.Proofs.Ytcombjhkbjbncaa.W.quiet_bin rfl rfl rfl (fun W => sl16 W _ _ _ (by omega) (by omega))) ?_
  refine W.op rfl rfl rfl (Go.Proofs.Ytcombjhkbjbncaa.W.quiet_bin rfl rfl rfl (fun W => or16 W _ _ _ _ (by omega) (by omega) (by omega) (by omega))) ?_
  refine W.op rfl rfl rfl (Go.Proofs.Ytcombjhkbjbncaa.W.quiet_move rfl rfl) ?_
  refine W.op rfl rfl rfl (Go.Proofs.Ytcombjhkbjbncaa.W.quiet_index rfl rfl rfl (fun W => (qi_s_uint8 _ _ _ _ _ 3 (by omega)))) ?_
  refine W.op rfl rfl rfl (Go.Proofs.Ytcombjhkbjbncaa.W.quiet_load rfl rfl (fun W hW => (ql_uint8 _ _ _ (hW.cell hc3 id)))) ?_
  refine W.op rfl rfl rfl (Q.cv rfl rfl (fun W hW => (qc_uint8_uint32 _ _ (by omega) (by omega)))) ?_
  refine W.op rfl rfl rfl (Go.Proofs.Ytcombjhkbjbncaa.W.quiet_bin rfl rfl rfl (fun W => sl24 W _ _ _ (by omega) (by omega))) ?_
  refine W.op rfl rfl rfl (Go.Proofs.Ytcombjhkbjbncaa.W.quiet_bin rfl rfl rfl (fun W => or24 W _ _ _ _ (by omega) (by omega) (by omega) (by omega))) ?_
  refine W.op rfl rfl rfl (Go.Proofs.Ytcombjhkbjbncaa.W.quiet_assign rfl rfl) ?_
  refine Q.nil (T.tw fun wq1 fq1 => ?_)
  replace ff := ff.trans' fq1 (fun q hq e => e.elim)
  replace hbx := Bx.fr hbx fq1 id
  replace ha := ha.fr fq1
  replace hx := hx.fr fq1
  refine TW.rt ?_
  refine bodyw_ret rfl rfl ?_
  exact .inr ⟨_, _, _, _, rdNum_long hn, rfl, hbx, ha, he2, ff⟩
set_option maxRecDepth 100000 in
theorem t_number (Z g : Nat) (hZ : Z ≤ g) (a : Option Addr) (c : Nat) (l : List Int) (hll : l.length ≤ 300000) (hc : l.length ≤ c) (w : World) (hbx : Bx w g #[.slice a l.length c] 46) (ha : NumAt .u8 Z w a l) (hby : Byt l) (m : Int) (hm0 : 0 ≤ m) (hm1 : m ≤ 1000000) : Calls Try.prog 28 #[.pointer (some ⟨g, 0, none⟩), .int .i64 m] w fun e w' => (rdMax m l = none ∧ e = .panicked malf ∧ Fr (fun q => q = g) w w') ∨ (∃ (n : Int) (r : List Int) (a2 : Option Addr) (c2 : Nat), rdMax m l = some (n, r) ∧ e = .returned (.int .i64 n) ∧ Bx w' g #[.slice a2 (r).length c2] 46 ∧ NumAt .u8 Z w' a2 (r) ∧ (r).length ≤ c2 ∧ Fr (fun q => q = g) w w') := by
  have ff := Fr.refl (fun q => q = g) w
  refine calls_tw Try.func28 rfl rfl (Nat.le_of_ble_eq_true rfl) ?_
  refine TW.sreg ?_
  refine WL.op rfl rfl rfl (Go.Proofs.Ytcombjhkbjbncaa.W.quiet_assign rfl rfl) ?_
  refine WL.nil ?_
  refine TW.sreg ?_
  refine WL.op rfl rfl rfl (Go.Proofs.Ytcombjhkbjbncaa.W.quiet_move rfl rfl) ?_
  refine WL.callP (hr := (t_word Z g hZ a c l hll hc _ hbx ha hby)) rfl rfl rfl rfl rfl (fun W => qk_pack_reader_word W _) ?_
  rintro e w1 h9
  rcases h9 with ⟨hp, rfl, f1⟩ | ⟨n, r, a2, c2, hn, rfl, hbx2, ha2, hc2, f1⟩
  · refine .inr ⟨_, rfl, fun a k => ?_⟩
    exact And.intro k.defers (.inl ⟨by unfold rdMax; rw [hp], rfl, ff.trans' f1 (fun q hq e => e)⟩)
  refine .inl ⟨_, rfl, ?_⟩
  replace ff := ff.trans' f1 (fun q hq e => e)
  clear hbx ha
  have hbx := hbx2
  have ha := ha2
  have hnb := rdNum_byt hby hn
  refine WL.op rfl rfl rfl (Go.Proofs.Ytcombjhkbjbncaa.W.quiet_assign rfl rfl) ?_
  refine WL.nil ?_
  refine TW.sreg ?_
  refine WL.op rfl rfl rfl (Go.Proofs.Ytcombjhkbjbncaa.W.quiet_move rfl rfl) ?_
  refine O.cv rfl rfl rfl rfl rfl (qc_uint32_uint64 _ _ (by omega) (by omega)) ?_
  refine WL.op rfl rfl rfl (Go.Proofs.Ytcombjhkbjbncaa.W.quiet_move rfl rfl) ?_
  refine O.cv rfl rfl rfl rfl rfl (qc_int_uint64 _ _ (by omega) (by omega)) ?_
  refine WL.op rfl rfl rfl (Go.Proofs.Ytcombjhkbjbncaa.W.quiet_bin rfl rfl rfl (fun W => qb_leq_uint64 W _ _ _ _)) ?_
  refine WL.callP (hr := (t_require (decide (n ≤ m)) _)) rfl rfl rfl rfl rfl (fun W => qk_pack_require W _) ?_
  rintro e w2 h9
  rcases h9 with ⟨hq, rfl, f2⟩ | ⟨hq, rfl, f2⟩
  · refine .inr ⟨_, rfl, fun a k => ?_⟩
    exact And.intro k.defers (.inl ⟨by unfold rdMax; rw [hn]; exact if_neg (of_decide_eq_false hq), rfl, ff.trans' f2 (fun q hq e => e.elim)⟩)
  refine .inl ⟨_, rfl, ?_⟩
  replace ff := ff.trans' f2 (fun q hq e => e.elim)
  replace hbx := Bx.fr hbx f2 id
  replace ha := ha.fr f2
  refine WL.nil ?_
  refine TW.sreg ?_
  refine WL.op rfl rfl rfl (Go.Proofs.Ytcombjhkbjbncaa.W.quiet_move rfl rfl) ?_
  refine O.cv rfl rfl rfl rfl rfl (qc_uint32_int _ _ (by omega) (by omega)) ?_
  refine WL.op rfl rfl rfl (Go.Proofs.Ytcombjhkbjbncaa.W.quiet_assign rfl rfl) ?_
  refine WL.nil ?_
  refine TW.rt ?_
  refine bodyw_ret rfl rfl ?_
  exact .inr ⟨n, r, a2, c2, by unfold rdMax; rw [hn]; exact if_pos (of_decide_eq_true hq), rfl, hbx, ha, hc2, ff⟩
set_option maxRecDepth 100000 in
theorem t_run (Z g : Nat) (hZ : Z ≤ g) (a : Option Addr) (c : Nat) (l : List Int) (hll : l.length ≤ 300000) (hc : l.length ≤ c) (w : World) (hbx : Bx w g #[.slice a l.length c] 46) (ha : NumAt .u8 Z w a l) (hby : Byt l) : Calls Try.prog 30 #[.pointer (some ⟨g, 0, none⟩)] w fun e w' => (rdRun l = none ∧ e = .panicked malf ∧ Fr (fun q => q = g) w w') ∨ (∃ (x r : List Int) (xa : Option Addr) (xc : Nat) (a2 : Option Addr) (c2 : Nat), rdRun l = some (x, r) ∧ e = .returned (.slice xa x.length xc) ∧ NumAt .u8 w'.heap.size w' xa x ∧ Bx w' g #[.slice a2 (r).length c2] 46 ∧ NumAt .u8 Z w' a2 (r) ∧ (r).length ≤ c2 ∧ Fr (fun q => q = g) w w') := by
  have ff := Fr.refl (fun q => q = g) w
  refine calls_tw Try.func30 rfl rfl (Nat.le_of_ble_eq_true rfl) ?_
  have hgl := hbx.lt
  refine TW.sreg ?_
  refine WL.op rfl rfl rfl (Go.Proofs.Ytcombjhkbjbncaa.W.quiet_assign rfl rfl) ?_
  refine WL.nil ?_
  refine TW.sreg ?_
  refine WL.op rfl rfl rfl (Go.Proofs.Ytcombjhkbjbncaa.W.quiet_move rfl rfl) ?_
  refine WL.callP (hr := (t_take Z g hZ a c l hll hc _ hbx ha 1)) rfl rfl rfl rfl rfl (fun W => qk_pack_reader_take W _) ?_
  rintro e w1 h9
  rcases h9 with ⟨hp, rfl, f1⟩ | ⟨hn, a2, c2, rfl, hbx2, ha2, hc2, hx, f1⟩
  · refine .inr ⟨_, rfl, fun a k => ?_⟩
    exact And.intro k.defers (.inl ⟨rdRun_nil hp, rfl, ff.trans' f1 (fun q hq e => e)⟩)
  refine .inl ⟨_, rfl, ?_⟩
  replace ff := ff.trans' f1 (fun q hq e => e)
  clear hbx ha
  have hbx := hbx2
  have ha := ha2
  obtain ⟨ga, oa, rfl, _⟩ := hx.form (by rw [List.length_take]; omega)
  have hb0 := hby.get 0
  have hc0 := hx.at0 (j := 0) (by rw [List.length_take]; omega)
  rw [take_get (by omega)] at hc0
  refine O.ixa rfl rfl rfl rfl rfl rfl (qi_s_uint8 _ _ _ _ _ 0 (by omega)) ?_
  refine WL.ld rfl rfl rfl rfl rfl (ql_uint8 _ _ _ hc0) ?_
  refine O.cv rfl rfl rfl rfl rfl (qc_uint8_int _ _ (by omega) (by omega)) ?_
  refine WL.op rfl rfl rfl (Go.Proofs.Ytcombjhkbjbncaa.W.quiet_assign rfl rfl) ?_
  refine WL.nil ?_
  refine TW.sreg ?_
  refine WL.op rfl rfl rfl (Go.Proofs.Ytcombjhkbjbncaa.W.quiet_move rfl rfl) ?_
  refine WL.op rfl rfl rfl (Go.Proofs.Ytcombjhkbjbncaa.W.quiet_bin rfl rfl rfl (fun W => qb_gtr_int W _ _ _ _)) ?_
  refine WL.callP (hr := (t_require (decide (0 < l.getD 0 0)) _)) rfl rfl rfl rfl rfl (fun W => qk_pack_require W _) ?_
  rintro e w2 h9
  rcases h9 with ⟨hq, rfl, f2⟩ | ⟨hq, rfl, f2⟩
  · refine .inr ⟨_, rfl, fun a k => ?_⟩
    exact And.intro k.defers (.inl ⟨rdRun_0 hn (of_decide_eq_false hq), rfl, ff.trans' f2 (fun q hq e => e.elim)⟩)
  refine .inl ⟨_, rfl, ?_⟩
  replace ff := ff.trans' f2 (fun q hq e => e.elim)
  replace hbx := Bx.fr hbx f2 id
  replace ha := ha.fr f2
  refine WL.nil ?_
  refine TW.seq ?_
  refine TW.sreg ?_
  refine WL.op rfl rfl rfl (Go.Proofs.Ytcombjhkbjbncaa.W.quiet_move rfl rfl) ?_
  refine WL.op rfl rfl rfl (Go.Proofs.Ytcombjhkbjbncaa.W.quiet_bin rfl rfl rfl (fun W => qb_gtr_int W _ _ _ _)) ?_
  refine O.split (fun hg => ?_) (fun hg => ?_)
  · skip
    have h127 := of_decide_eq_true hg
    obtain ⟨zn, hzn⟩ : ∃ zn : Nat, l.getD 0 0 - 127 = (zn : Int) := ⟨(l.getD 0 0 - 127).toNat, by omega⟩
    refine WL.nil ?_
    refine TW.cond rfl (fun _ => ?_) (fun hb => by cases hb)
    refine TW.sreg ?_
    refine WL.op rfl rfl rfl (Go.Proofs.Ytcombjhkbjbncaa.W.quiet_move rfl rfl) ?_
    refine WL.op rfl rfl rfl (Go.Proofs.Ytcombjhkbjbncaa.W.quiet_bin rfl rfl rfl (fun W => (qb_sub_int W _ _ _ _ (by omega) (by omega)).trans (by rw [hzn]))) ?_
    refine O.mkR rfl rfl rfl rfl rfl rfl (mk_8 zn (by omega) _) ?_
    rintro wa1 ⟨fa1, bx1⟩
    replace ff := ff.trans' fa1 (fun q hq e => e.elim)
    replace hbx := Bx.fr hbx fa1 id
    replace ha := ha.fr fa1
    refine WL.op rfl rfl rfl (Go.Proofs.Ytcombjhkbjbncaa.W.quiet_assign rfl rfl) ?_
    refine WL.nil ?_
    refine TW.rt ?_
    refine Xw.thn (by simp) ?_
    refine bodyw_ret rfl rfl ?_
    have hrr := rdRun_1 hn h127
    rw [hzn, Int.toNat_natCast] at hrr
    refine .inr ⟨List.replicate zn 0, _, _, _, _, _, hrr, by rw [List.length_replicate], made_num bx1, hbx, ha, hc2, ff⟩
  · skip
    have h127 := of_decide_eq_false hg
    have h0 := of_decide_eq_true hq
    have hr2 := rdRun_2 hn h0 h127
    obtain ⟨tn, htn⟩ : ∃ tn : Nat, l.getD 0 0 = (tn : Int) := ⟨(l.getD 0 0).toNat, by omega⟩
    rw [htn] at hr2 ⊢
    rw [Int.toNat_natCast] at hr2
    have hl1 : (l.drop 1).length ≤ l.length := by simp
    refine WL.nil ?_
    refine TW.cond rfl (fun hb => by cases hb) (fun _ => ?_)
    refine TW.skip ?_
    refine TW.sreg ?_
    refine WL.op rfl rfl rfl (Go.Proofs.Ytcombjhkbjbncaa.W.quiet_move rfl rfl) ?_
    refine WL.op rfl rfl rfl (Go.Proofs.Ytcombjhkbjbncaa.W.quiet_move rfl rfl) ?_
    refine WL.callP (hr := (t_take Z g hZ a2 c2 (l.drop 1) (by omega) hc2 _ hbx ha tn)) rfl rfl rfl rfl rfl (fun W => qk_pack_reader_take W _) ?_
    rintro e w3 h9
    rcases h9 with ⟨hp, rfl, f3⟩ | ⟨hn3, a3, c3, rfl, hbx3, ha3, hc3, hx3, f3⟩
    · refine .inr ⟨_, rfl, fun a k => ?_⟩
      exact And.intro k.defers (.inl ⟨by rw [hr2]; exact if_neg (by omega), rfl, ff.trans' f3 (fun q hq e => e)⟩)
    refine .inl ⟨_, rfl, ?_⟩
    replace ff := ff.trans' f3 (fun q hq e => e)
    rw [if_pos (by omega)] at hr2
    have htl : ((l.drop 1).take tn).length = tn := by rw [List.length_take]; omega
    have hzs := ff.size
    refine WL.op rfl rfl rfl (Go.Proofs.Ytcombjhkbjbncaa.W.quiet_assign rfl rfl) ?_
    refine WL.nil ?_
    refine TW.rt ?_
    refine bodyw_ret rfl rfl ?_
    refine .inr ⟨_, _, a2, c2, _, _, hr2, by rw [htl], hx3.up (by omega), hbx3, ha3, hc3, ff⟩
end Go.Proofs.Ytcombjhkbjbncaa
