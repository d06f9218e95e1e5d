/-
  What instructions use (layer 13), by the document: what an instruction sets, and what it reads.
-/
import Derived.Test.YtobibplilbchfaaDuD
namespace Go.Proofs.Ytobibplilbchfaa
open Go.RowKit
set_option linter.unusedVariables false
set_option linter.unusedSimpArgs false
theorem qk_rushlightref13_fields (w : World) (vs : Array Value) : (callFunc 67 vs).run Try.prog w = .ok (.enter 67 vs) w := by simp [go_sem]
theorem qn_s_bool (w : World) (a : Option Addr) (k l : Nat) : (Builtin.len_ #[30] 3 #[.slice a k l]).run Try.prog w = .ok (.int .i64 k) w := by simp [go_sem]
theorem r_flds (x : Int) (w : World) : Calls Try.prog 67 #[.int .i64 x] w fun e w' => ∃ a n c, e = .returned (.slice a n c) ∧ Fr (fun _ => False) w w' ∧ ((hK x = false ∧ a = none ∧ n = 0 ∧ c = 0) ∨ (hK x = true ∧ ∃ g b3 b4 b5 b6 b7 b9, a = some ⟨g, 0, none⟩ ∧ n = 10 ∧ c = 10 ∧ Bx w' g #[.bool (hD x), .bool (hA x), .bool (hB x), .bool b3, .bool b4, .bool b5, .bool b6, .bool b7, .bool (hR x), .bool b9] 4)) :=
  (r_fields x w).mono fun e w' q => by
    rcases q with ⟨h, rfl, f⟩ | ⟨h, g, b3, b4, b5, b6, b7, b9, rfl, bx, f⟩
    · exact ⟨_, _, _, rfl, f, .inl ⟨h, rfl, rfl, rfl⟩⟩
    · exact ⟨_, _, _, rfl, f, .inr ⟨h, g, b3, b4, b5, b6, b7, b9, rfl, rfl, rfl, bx⟩⟩
theorem filter_one (b : Bool) (x : Int) : (if b = true then [x] else []).filter (fun x => !isNo x) = if b = true ∧ x ≠ -1 then [x] else [] := by
  by_cases hb : b = true
  · by_cases hx : x = -1
    · subst hx; rw [if_pos hb, if_neg (fun q => q.2 rfl)]; rfl
    · have : isNo x = false := by unfold isNo; simpa using hx
      rw [if_pos hb, if_pos ⟨hb, hx⟩]; simp [this]
  · rw [if_neg hb, if_neg (fun q => hb q.1)]; rfl
theorem usesF_eq (i : Inn) : usesF i = (if hA i.x0 = true ∧ i.x2 ≠ -1 then [i.x2] else []) ++ (if hB i.x0 = true ∧ i.x3 ≠ -1 then [i.x3] else []) ++ (if hR i.x0 = true then i.args else []).filter fun x => !isNo x := by
  unfold usesF
  rw [List.filter_append, List.filter_append, filter_one, filter_one]
theorem uses_yes {i : Inn} {j : Nat} (hj : j < i.args.length) (h : i.args.getD j 0 ≠ -1) : (i.args.take (j + 1)).filter (fun x => !isNo x) = (i.args.take j).filter (fun x => !isNo x) ++ [i.args.getD j 0] := by
  have e : isNo (i.args.getD j 0) = false := by unfold isNo; simpa using h
  exact keepK_yes (p := isNo) hj e
theorem uses_no {i : Inn} {j : Nat} (hj : j < i.args.length) (h : i.args.getD j 0 = -1) : (i.args.take (j + 1)).filter (fun x => !isNo x) = (i.args.take j).filter (fun x => !isNo x) := by
  have e : isNo (i.args.getD j 0) = true := by unfold isNo; simpa using h
  exact keepK_no (p := isNo) hj e
theorem uses_len (i : Inn) (j : Nat) : ((i.args.take j).filter fun x => !isNo x).length ≤ j := Nat.le_trans (List.length_filter_le _ _) (by rw [List.length_take]; omega)
set_option maxRecDepth 100000 in
theorem r_def (i : Inn) (p : Option Addr × Nat) (w : World) : Calls Try.prog 51 #[.agg #[.int .i64 i.x0, .int .i64 i.x1, .int .i64 i.x2, .int .i64 i.x3, .int .i64 i.x4, .int .i64 i.x5, .int .i64 i.x6, .int .i64 i.x7, .int .u32 i.u, .slice p.1 i.args.length p.2, .bool i.lg]] w fun e w' => e = .returned (.int .i64 (defF i)) ∧ Fr (fun _ => False) w w' := by
  have ff := Fr.refl (fun _ => False) w
  refine calls_tw Try.func51 rfl rfl (Nat.le_of_ble_eq_true rfl) ?_
  refine TW.sreg ?_
  have lw1 := ff.size
  refine O.boxR rfl rfl rfl rfl rfl (qxR_api_Ins w _ _ _ _ _ _ _ _ _ _ _ _ _) ?_
  rintro wa1 ⟨fa1, bx1⟩
  replace ff := ff.trans fa1
  refine WL.op rfl rfl rfl (Go.Proofs.Ytobibplilbchfaa.W.quiet_assign rfl rfl) ?_
  refine WL.nil ?_
  refine TW.sreg ?_
  refine WL.op rfl rfl rfl (Go.Proofs.Ytobibplilbchfaa.W.quiet_field rfl rfl (fun W => (qa_api_Ins_0 W _ _))) ?_
  refine WL.ld rfl rfl rfl rfl rfl (ql_int _ _ _ (bx1.cell (j := 0) rfl)) ?_
  refine WL.call (hr := r_flds i.x0 _) rfl rfl rfl rfl rfl (fun W => qk_rushlightref13_fields W _) ?_
  rintro e w1 ⟨fa, fn, fc, rfl, f1, hf⟩
  refine ⟨_, rfl, ?_⟩
  replace bx1 := bx1.fr f1 id
  replace ff := ff.trans f1
  rcases hf with ⟨hk, rfl, rfl, rfl⟩ | ⟨hk, gf, b3, b4, b5, b6, b7, b9, rfl, rfl, rfl, bxf⟩
  · obtain ⟨e0, e1, e2, e3⟩ := hA_K hk
    refine WL.op rfl rfl rfl (Go.Proofs.Ytobibplilbchfaa.W.quiet_assign rfl rfl) ?_
    refine WL.nil ?_
    refine TW.seq ?_
    refine TW.sreg ?_
    refine WL.op rfl rfl rfl (Go.Proofs.Ytobibplilbchfaa.W.quiet_move rfl rfl) ?_
    refine O.len rfl rfl rfl rfl rfl (qn_s_bool _ _ _ _) ?_
    refine WL.op rfl rfl rfl (Go.Proofs.Ytobibplilbchfaa.W.quiet_bin rfl rfl rfl (fun W => qb_eql_int W _ _ _ _)) ?_
    refine O.split (fun hb => ?_) (fun hb => by simp at hb)
    refine WL.op rfl rfl rfl (Go.Proofs.Ytobibplilbchfaa.W.quiet_move rfl rfl) ?_
    refine WL.skip rfl rfl rfl ?_
    refine WL.skip rfl rfl rfl ?_
    refine WL.skip rfl rfl rfl ?_
    refine WL.skip rfl rfl rfl ?_
    refine WL.op rfl rfl rfl (Go.Proofs.Ytobibplilbchfaa.W.quiet_pick rfl rfl rfl) ?_
    refine WL.nil ?_
    refine TW.cond rfl (fun _ => ?_) (fun hb => by cases hb)
    refine TW.sreg ?_
    refine WL.op rfl rfl rfl (Go.Proofs.Ytobibplilbchfaa.W.quiet_assign rfl rfl) ?_
    refine WL.nil ?_
    refine TW.rt ?_
    refine Xw.thn (by simp) ?_
    refine bodyw_ret rfl rfl ?_
    exact ⟨by unfold defF; rw [if_neg (by rw [e0]; decide)], ff⟩
  · skip
    refine WL.op rfl rfl rfl (Go.Proofs.Ytobibplilbchfaa.W.quiet_assign rfl rfl) ?_
    refine WL.nil ?_
    refine TW.seq ?_
    refine TW.sreg ?_
    refine WL.op rfl rfl rfl (Go.Proofs.Ytobibplilbchfaa.W.quiet_move rfl rfl) ?_
    refine O.len rfl rfl rfl rfl rfl (qn_s_bool _ _ _ _) ?_
    refine WL.op rfl rfl rfl (Go.Proofs.Ytobibplilbchfaa.W.quiet_bin rfl rfl rfl (fun W => qb_eql_int W _ _ _ _)) ?_
    refine O.split (fun hb => by simp at hb) (fun hb => ?_)
    refine WL.op rfl rfl rfl (Go.Proofs.Ytobibplilbchfaa.W.quiet_move rfl rfl) ?_
    refine WL.op rfl rfl rfl (Go.Proofs.Ytobibplilbchfaa.W.quiet_move rfl rfl) ?_
    refine O.ixa rfl rfl rfl rfl rfl rfl (by exact qi_s_bool _ _ _ _ _ 0 (by decide)) ?_
    refine WL.ld rfl rfl rfl rfl rfl (ql_bool _ _ _ (bxf.cell (j := 0) rfl)) ?_
    refine O.split (fun h1 => ?_) (fun h1 => ?_)
    · skip
      refine WL.op rfl rfl rfl (Go.Proofs.Ytobibplilbchfaa.W.quiet_not rfl rfl) ?_
      refine WL.op rfl rfl rfl (Go.Proofs.Ytobibplilbchfaa.W.quiet_pick rfl rfl rfl) ?_
      refine WL.nil ?_
      refine TW.cond rfl (fun hb => by cases hb) (fun _ => ?_)
      refine TW.skip ?_
      refine TW.sreg ?_
      refine WL.op rfl rfl rfl (Go.Proofs.Ytobibplilbchfaa.W.quiet_field rfl rfl (fun W => (qa_api_Ins_1 W _ _))) ?_
      refine WL.ld rfl rfl rfl rfl rfl (ql_int _ _ _ (bx1.cell (j := 1) rfl)) ?_
      refine WL.op rfl rfl rfl (Go.Proofs.Ytobibplilbchfaa.W.quiet_assign rfl rfl) ?_
      refine WL.nil ?_
      refine TW.rt ?_
      refine bodyw_ret rfl rfl ?_
      exact ⟨by unfold defF; rw [if_pos h1], ff⟩
    · skip
      refine WL.op rfl rfl rfl (Go.Proofs.Ytobibplilbchfaa.W.quiet_not rfl rfl) ?_
      refine WL.op rfl rfl rfl (Go.Proofs.Ytobibplilbchfaa.W.quiet_pick rfl rfl rfl) ?_
      refine WL.nil ?_
      refine TW.cond rfl (fun _ => ?_) (fun hb => by cases hb)
      refine TW.sreg ?_
      refine WL.op rfl rfl rfl (Go.Proofs.Ytobibplilbchfaa.W.quiet_assign rfl rfl) ?_
      refine WL.nil ?_
      refine TW.rt ?_
      refine Xw.thn (by simp) ?_
      refine bodyw_ret rfl rfl ?_
      exact ⟨by unfold defF; rw [if_neg (by rw [h1]; decide)], ff⟩
set_option maxRecDepth 100000 in
theorem r_uses (i : Inn) (p : Option Addr × Nat) (hal : i.args.length ≤ 1000) (w : World) (hAr : IntsAt w p.1 i.args) : Calls Try.prog 50 #[.agg #[.int .i64 i.x0, .int .i64 i.x1, .int .i64 i.x2, .int .i64 i.x3, .int .i64 i.x4, .int .i64 i.x5, .int .i64 i.x6, .int .i64 i.x7, .int .u32 i.u, .slice p.1 i.args.length p.2, .bool i.lg]] w fun e w' => ∃ v, e = .returned v ∧ Ints w.heap.size w' v (usesF i) ∧ Fr (fun _ => False) w w' := by
  have ff := Fr.refl (fun _ => False) w
  refine calls_tw Try.func50 rfl rfl (Nat.le_of_ble_eq_true rfl) ?_
  refine TW.sreg ?_
  have lw1 := ff.size
  refine O.boxR rfl rfl rfl rfl rfl (qxR_api_Ins w _ _ _ _ _ _ _ _ _ _ _ _ _) ?_
  rintro wa1 ⟨fa1, bx1⟩
  replace ff := ff.trans fa1
  refine WL.op rfl rfl rfl (Go.Proofs.Ytobibplilbchfaa.W.quiet_assign rfl rfl) ?_
  refine WL.nil ?_
  refine TW.sreg ?_
  refine WL.op rfl rfl rfl (Go.Proofs.Ytobibplilbchfaa.W.quiet_assign rfl rfl) ?_
  refine WL.nil ?_
  refine TW.sreg ?_
  refine WL.op rfl rfl rfl (Go.Proofs.Ytobibplilbchfaa.W.quiet_field rfl rfl (fun W => (qa_api_Ins_0 W _ _))) ?_
  refine WL.ld rfl rfl rfl rfl rfl (ql_int _ _ _ (bx1.cell (j := 0) rfl)) ?_
  refine WL.call (hr := r_flds i.x0 _) rfl rfl rfl rfl rfl (fun W => qk_rushlightref13_fields W _) ?_
  rintro e w1 ⟨fa, fn, fc, rfl, f1, hf⟩
  refine ⟨_, rfl, ?_⟩
  replace bx1 := bx1.fr f1 id
  replace ff := ff.trans f1
  rcases hf with ⟨hk, rfl, rfl, rfl⟩ | ⟨hk, gf, b3, b4, b5, b6, b7, b9, rfl, rfl, rfl, bxf⟩
  · obtain ⟨e0, e1, e2, e3⟩ := hA_K hk
    refine WL.op rfl rfl rfl (Go.Proofs.Ytobibplilbchfaa.W.quiet_assign rfl rfl) ?_
    refine WL.nil ?_
    refine TW.seq ?_
    refine TW.sreg ?_
    refine WL.op rfl rfl rfl (Go.Proofs.Ytobibplilbchfaa.W.quiet_move rfl rfl) ?_
    refine O.len rfl rfl rfl rfl rfl (qn_s_bool _ _ _ _) ?_
    refine WL.op rfl rfl rfl (Go.Proofs.Ytobibplilbchfaa.W.quiet_bin rfl rfl rfl (fun W => qb_gtr_int W _ _ _ _)) ?_
    refine O.split (fun hb => by simp at hb) (fun hb => ?_)
    refine WL.op rfl rfl rfl (Go.Proofs.Ytobibplilbchfaa.W.quiet_move rfl rfl) ?_
    refine WL.skip rfl rfl rfl ?_
    refine WL.skip rfl rfl rfl ?_
    refine WL.skip rfl rfl rfl ?_
    refine WL.op rfl rfl rfl (Go.Proofs.Ytobibplilbchfaa.W.quiet_pick rfl rfl rfl) ?_
    refine WL.op rfl rfl rfl (Go.Proofs.Ytobibplilbchfaa.W.quiet_move rfl rfl) ?_
    refine WL.skip rfl rfl rfl ?_
    refine WL.skip rfl rfl rfl ?_
    refine WL.skip rfl rfl rfl ?_
    refine WL.op rfl rfl rfl (Go.Proofs.Ytobibplilbchfaa.W.quiet_pick rfl rfl rfl) ?_
    refine WL.nil ?_
    refine TW.cond rfl (fun hb => by cases hb) (fun _ => ?_)
    refine TW.skip ?_
    refine TW.seq ?_
    refine TW.sreg ?_
    refine WL.op rfl rfl rfl (Go.Proofs.Ytobibplilbchfaa.W.quiet_move rfl rfl) ?_
    refine O.len rfl rfl rfl rfl rfl (qn_s_bool _ _ _ _) ?_
    refine WL.op rfl rfl rfl (Go.Proofs.Ytobibplilbchfaa.W.quiet_bin rfl rfl rfl (fun W => qb_gtr_int W _ _ _ _)) ?_
    refine O.split (fun hb => by simp at hb) (fun hb => ?_)
    refine WL.op rfl rfl rfl (Go.Proofs.Ytobibplilbchfaa.W.quiet_move rfl rfl) ?_
    refine WL.skip rfl rfl rfl ?_
    refine WL.skip rfl rfl rfl ?_
    refine WL.skip rfl rfl rfl ?_
    refine WL.op rfl rfl rfl (Go.Proofs.Ytobibplilbchfaa.W.quiet_pick rfl rfl rfl) ?_
    refine WL.op rfl rfl rfl (Go.Proofs.Ytobibplilbchfaa.W.quiet_move rfl rfl) ?_
    refine WL.skip rfl rfl rfl ?_
    refine WL.skip rfl rfl rfl ?_
    refine WL.skip rfl rfl rfl ?_
    refine WL.op rfl rfl rfl (Go.Proofs.Ytobibplilbchfaa.W.quiet_pick rfl rfl rfl) ?_
    refine WL.nil ?_
    refine TW.cond rfl (fun hb => by cases hb) (fun _ => ?_)
    refine TW.skip ?_
    refine TW.seq ?_
    refine TW.sreg ?_
    refine WL.op rfl rfl rfl (Go.Proofs.Ytobibplilbchfaa.W.quiet_assign rfl rfl) ?_
    refine WL.nil ?_
    refine TW.block ?_
    refine O.loopG (n := 0) (fun a _ => (intOf (a.tmps.getD 5 undef)).toNat) (fun j a W => Kn Try.f50.ntmps [(1, .pointer (some ⟨w.heap.size, 0, none⟩)), (3, .slice none 0 0), (4, .slice none 0 0), (5, .int .i64 (j : Int))] a ∧ Fr (fun _ => False) w W) (fun j a W h => O.slotv h.1 rfl) 0 (Nat.zero_le _) (fun a k => ⟨(by (repeat (refine Kn.cons k rfl ?_)); exact k.base), ff⟩) ?_
    rintro j a wl hj ⟨k, ff⟩
    refine TW.app (s := [(1, .pointer (some ⟨w.heap.size, 0, none⟩)), (3, .slice none 0 0), (4, .slice none 0 0), (5, .int .i64 (j : Int))]) ?_ k
    refine TW.seq ?_
    refine TW.sreg ?_
    refine WL.op rfl rfl rfl (Go.Proofs.Ytobibplilbchfaa.W.quiet_move rfl rfl) ?_
    refine O.len rfl rfl rfl rfl rfl (qn_s_bool _ _ _ _) ?_
    refine WL.op rfl rfl rfl (Go.Proofs.Ytobibplilbchfaa.W.quiet_bin rfl rfl rfl (fun W => qb_gtr_int W _ _ _ _)) ?_
    refine O.split (fun hb => by simp at hb) (fun hb => ?_)
    refine WL.op rfl rfl rfl (Go.Proofs.Ytobibplilbchfaa.W.quiet_move rfl rfl) ?_
    refine WL.skip rfl rfl rfl ?_
    refine WL.skip rfl rfl rfl ?_
    refine WL.skip rfl rfl rfl ?_
    refine WL.op rfl rfl rfl (Go.Proofs.Ytobibplilbchfaa.W.quiet_pick rfl rfl rfl) ?_
    refine WL.op rfl rfl rfl (Go.Proofs.Ytobibplilbchfaa.W.quiet_move rfl rfl) ?_
    refine WL.skip rfl rfl rfl ?_
    refine WL.skip rfl rfl rfl ?_
    refine WL.skip rfl rfl rfl ?_
    refine WL.skip rfl rfl rfl ?_
    refine WL.skip rfl rfl rfl ?_
    refine WL.op rfl rfl rfl (Go.Proofs.Ytobibplilbchfaa.W.quiet_pick rfl rfl rfl) ?_
    refine WL.nil ?_
    refine TW.cond rfl (fun hb => by cases hb) (fun _ => ?_)
    refine TW.exit ?_
    refine Xw.thn (by simp) ?_
    refine Xw.thn (by simp) ?_
    refine Xw.hit ?_
    refine Xw.nrm ?_
    refine TW.sreg ?_
    refine WL.op rfl rfl rfl (Go.Proofs.Ytobibplilbchfaa.W.quiet_move rfl rfl) ?_
    refine WL.op rfl rfl rfl (Go.Proofs.Ytobibplilbchfaa.W.quiet_assign rfl rfl) ?_
    refine WL.nil ?_
    refine TW.rt ?_
    refine bodyw_ret rfl rfl ?_
    have hu : usesF i = [] := by unfold usesF; rw [if_neg (by rw [e1]; decide), if_neg (by rw [e2]; decide), if_neg (by rw [e3]; decide)]; rfl
    exact ⟨_, rfl, by rw [hu]; exact Row.nil _ _ _ _ _, ff⟩
  · skip
    obtain ⟨Z, hZ⟩ : ∃ n, n = w1.heap.size := ⟨_, rfl⟩
    have hV : Ints Z w1 (.slice none 0 0) [] := Row.nil _ _ _ _ _
    have hz : Z ≤ w1.heap.size := by omega
    have hA0 := hAr.fr ff
    have hb1z : w.heap.size < Z := by have := bx1.lt; omega
    have hb2z : gf < Z := by have := bxf.lt; omega
    refine WL.op rfl rfl rfl (Go.Proofs.Ytobibplilbchfaa.W.quiet_assign rfl rfl) ?_
    refine WL.nil ?_
    refine TW.seq ?_
    refine TW.sreg ?_
    refine WL.op rfl rfl rfl (Go.Proofs.Ytobibplilbchfaa.W.quiet_move rfl rfl) ?_
    refine O.len rfl rfl rfl rfl rfl (qn_s_bool _ _ _ _) ?_
    refine WL.op rfl rfl rfl (Go.Proofs.Ytobibplilbchfaa.W.quiet_bin rfl rfl rfl (fun W => qb_gtr_int W _ _ _ _)) ?_
    refine O.split (fun hb => ?_) (fun hb => by simp at hb)
    refine WL.op rfl rfl rfl (Go.Proofs.Ytobibplilbchfaa.W.quiet_move rfl rfl) ?_
    refine WL.op rfl rfl rfl (Go.Proofs.Ytobibplilbchfaa.W.quiet_move rfl rfl) ?_
    refine O.ixa rfl rfl rfl rfl rfl rfl (by exact qi_s_bool _ _ _ _ _ 1 (by decide)) ?_
    refine WL.ld rfl rfl rfl rfl rfl (ql_bool _ _ _ (bxf.cell (j := 1) rfl)) ?_
    refine O.split (fun h1 => ?_) (fun h1 => ?_)
    · skip
      refine WL.op rfl rfl rfl (Go.Proofs.Ytobibplilbchfaa.W.quiet_pick rfl rfl rfl) ?_
      refine WL.op rfl rfl rfl (Go.Proofs.Ytobibplilbchfaa.W.quiet_move rfl rfl) ?_
      refine WL.op rfl rfl rfl (Go.Proofs.Ytobibplilbchfaa.W.quiet_field rfl rfl (fun W => (qa_api_Ins_2 W _ _))) ?_
      refine WL.ld rfl rfl rfl rfl rfl (ql_int _ _ _ (bx1.cell (j := 2) rfl)) ?_
      refine WL.op rfl rfl rfl (Go.Proofs.Ytobibplilbchfaa.W.quiet_bin rfl rfl rfl (fun W => qb_neq_int W _ _ _ _)) ?_
      refine O.split (fun h2 => ?_) (fun h2 => ?_)
      · skip
        have hc1 : hA i.x0 = true ∧ i.x2 ≠ -1 := ⟨h1, by simpa using h2⟩
        refine WL.op rfl rfl rfl (Go.Proofs.Ytobibplilbchfaa.W.quiet_pick rfl rfl rfl) ?_
        refine WL.nil ?_
        refine TW.cond rfl (fun _ => ?_) (fun hb => by cases hb)
        refine TW.reg ?_
        refine WL.op rfl rfl rfl (Go.Proofs.Ytobibplilbchfaa.W.quiet_move rfl rfl) ?_
        refine WL.op rfl rfl rfl (Go.Proofs.Ytobibplilbchfaa.W.quiet_field rfl rfl (fun W => (qa_api_Ins_2 W _ _))) ?_
        refine WL.ld rfl rfl rfl rfl rfl (ql_int _ _ _ (bx1.cell (j := 2) rfl)) ?_
        refine O.bsl rfl rfl rfl rfl rfl (qv_s_int_1 _ _) ?_
        refine WL.append rfl rfl rfl rfl rfl rfl (Ints.app i.x2 _ hV hz (by simp)) ?_
        rintro v1 wB1 ⟨hV1, hF1, _⟩
        replace bx1 := bx1.fr hF1 (fun e => by have := (Row.lt hV _ e).1; omega)
        replace bxf := bxf.fr hF1 (fun e => by have := (Row.lt hV _ e).1; omega)
        replace ff := ff.trans' hF1 (fun q hq e => by have := (Row.lt hV q e).1; omega)
        replace hA0 := hAr.fr ff
        replace hV := hV1
        replace hz := Nat.le_trans hz hF1.size
        -- world wB1
        refine WL.op rfl rfl rfl (Go.Proofs.Ytobibplilbchfaa.W.quiet_assign rfl rfl) ?_
        refine WL.nil ?_
        refine TW.seq ?_
        refine TW.sreg ?_
        refine WL.op rfl rfl rfl (Go.Proofs.Ytobibplilbchfaa.W.quiet_move rfl rfl) ?_
        refine O.len rfl rfl rfl rfl rfl (qn_s_bool _ _ _ _) ?_
        refine WL.op rfl rfl rfl (Go.Proofs.Ytobibplilbchfaa.W.quiet_bin rfl rfl rfl (fun W => qb_gtr_int W _ _ _ _)) ?_
        refine O.split (fun hb => ?_) (fun hb => by simp at hb)
        refine WL.op rfl rfl rfl (Go.Proofs.Ytobibplilbchfaa.W.quiet_move rfl rfl) ?_
        refine WL.op rfl rfl rfl (Go.Proofs.Ytobibplilbchfaa.W.quiet_move rfl rfl) ?_
        refine O.ixa rfl rfl rfl rfl rfl rfl (by exact qi_s_bool _ _ _ _ _ 2 (by decide)) ?_
        refine WL.ld rfl rfl rfl rfl rfl (ql_bool _ _ _ (bxf.cell (j := 2) rfl)) ?_
        refine O.split (fun h3 => ?_) (fun h3 => ?_)
        · skip
          refine WL.op rfl rfl rfl (Go.Proofs.Ytobibplilbchfaa.W.quiet_pick rfl rfl rfl) ?_
          refine WL.op rfl rfl rfl (Go.Proofs.Ytobibplilbchfaa.W.quiet_move rfl rfl) ?_
          refine WL.op rfl rfl rfl (Go.Proofs.Ytobibplilbchfaa.W.quiet_field rfl rfl (fun W => (qa_api_Ins_3 W _ _))) ?_
          refine WL.ld rfl rfl rfl rfl rfl (ql_int _ _ _ (bx1.cell (j := 3) rfl)) ?_
          refine WL.op rfl rfl rfl (Go.Proofs.Ytobibplilbchfaa.W.quiet_bin rfl rfl rfl (fun W => qb_neq_int W _ _ _ _)) ?_
          refine O.split (fun h4 => ?_) (fun h4 => ?_)
          · skip
            have hc2 : hB i.x0 = true ∧ i.x3 ≠ -1 := ⟨h3, by simpa using h4⟩
            refine WL.op rfl rfl rfl (Go.Proofs.Ytobibplilbchfaa.W.quiet_pick rfl rfl rfl) ?_
            refine WL.nil ?_
            refine TW.cond rfl (fun _ => ?_) (fun hb => by cases hb)
            refine TW.reg ?_
            refine WL.op rfl rfl rfl (Go.Proofs.Ytobibplilbchfaa.W.quiet_move rfl rfl) ?_
            refine WL.op rfl rfl rfl (Go.Proofs.Ytobibplilbchfaa.W.quiet_field rfl rfl (fun W => (qa_api_Ins_3 W _ _))) ?_
            refine WL.ld rfl rfl rfl rfl rfl (ql_int _ _ _ (bx1.cell (j := 3) rfl)) ?_
            refine O.bsl rfl rfl rfl rfl rfl (qv_s_int_1 _ _) ?_
            refine WL.append rfl rfl rfl rfl rfl rfl (Ints.app i.x3 _ hV hz (by simp)) ?_
            rintro v2 wB2 ⟨hV2, hF2, _⟩
            replace bx1 := bx1.fr hF2 (fun e => by have := (Row.lt hV _ e).1; omega)
            replace bxf := bxf.fr hF2 (fun e => by have := (Row.lt hV _ e).1; omega)
            replace ff := ff.trans' hF2 (fun q hq e => by have := (Row.lt hV q e).1; omega)
            replace hA0 := hAr.fr ff
            replace hV := hV2
            replace hz := Nat.le_trans hz hF2.size
            -- world wB2
            cases hr1 : hR i.x0
            · skip
              refine WL.op rfl rfl rfl (Go.Proofs.Ytobibplilbchfaa.W.quiet_assign rfl rfl) ?_
              refine WL.nil ?_
              refine TW.seq ?_
              refine TW.sreg ?_
              refine WL.op rfl rfl rfl (Go.Proofs.Ytobibplilbchfaa.W.quiet_assign rfl rfl) ?_
              refine WL.nil ?_
              refine TW.block ?_
              refine O.loopG (n := 0) (fun a _ => (intOf (a.tmps.getD 5 undef)).toNat) (fun j a W => ∃ (v : Value), Kn Try.f50.ntmps [(1, .pointer (some ⟨w.heap.size, 0, none⟩)), (3, v), (4, .slice (some ⟨gf, 0, none⟩) 10 10), (5, .int .i64 (j : Int))] a ∧ Fr (fun _ => False) w W ∧ Bx W w.heap.size #[.int .i64 i.x0, .int .i64 i.x1, .int .i64 i.x2, .int .i64 i.x3, .int .i64 i.x4, .int .i64 i.x5, .int .i64 i.x6, .int .i64 i.x7, .int .u32 i.u, .slice p.1 i.args.length p.2, .bool i.lg] 69 ∧ Bx W gf #[.bool (hD i.x0), .bool (hA i.x0), .bool (hB i.x0), .bool b3, .bool b4, .bool b5, .bool b6, .bool b7, .bool (hR i.x0), .bool b9] 4 ∧ Z ≤ W.heap.size ∧ Ints Z W v ((([i.x2] ++ [i.x3]) : List Int) ++ (([] : List Int)).filter fun x => !isNo x)) (fun j a W h => by obtain ⟨_, h⟩ := h; exact O.slotv h.1 rfl) 0 (Nat.zero_le _) (fun a k => ⟨v2, (by (repeat (refine Kn.cons k rfl ?_)); exact k.base), ff, bx1, bxf, hz, by first | exact hV | (simpa using hV)⟩) ?_
              rintro j a wl hj ⟨v, k, ff, bx1, bxf, hz, hV⟩
              refine TW.app (s := [(1, .pointer (some ⟨w.heap.size, 0, none⟩)), (3, v), (4, .slice (some ⟨gf, 0, none⟩) 10 10), (5, .int .i64 (j : Int))]) ?_ k
              refine TW.seq ?_
              refine TW.sreg ?_
              refine WL.op rfl rfl rfl (Go.Proofs.Ytobibplilbchfaa.W.quiet_move rfl rfl) ?_
              refine O.len rfl rfl rfl rfl rfl (qn_s_bool _ _ _ _) ?_
              refine WL.op rfl rfl rfl (Go.Proofs.Ytobibplilbchfaa.W.quiet_bin rfl rfl rfl (fun W => qb_gtr_int W _ _ _ _)) ?_
              refine O.split (fun hb => ?_) (fun hb => by simp at hb)
              refine WL.op rfl rfl rfl (Go.Proofs.Ytobibplilbchfaa.W.quiet_move rfl rfl) ?_
              refine WL.op rfl rfl rfl (Go.Proofs.Ytobibplilbchfaa.W.quiet_move rfl rfl) ?_
              refine O.ixa rfl rfl rfl rfl rfl rfl (by exact qi_s_bool _ _ _ _ _ 8 (by decide)) ?_
              refine WL.ld rfl rfl rfl rfl rfl (ql_bool _ _ _ (bxf.cell (j := 8) rfl)) ?_
              refine O.split (fun hb => by rw [hr1] at hb; cases hb) (fun hb => ?_)
              refine WL.op rfl rfl rfl (Go.Proofs.Ytobibplilbchfaa.W.quiet_pick rfl rfl rfl) ?_
              refine WL.op rfl rfl rfl (Go.Proofs.Ytobibplilbchfaa.W.quiet_move rfl rfl) ?_
              refine WL.skip rfl rfl rfl ?_
              refine WL.skip rfl rfl rfl ?_
              refine WL.skip rfl rfl rfl ?_
              refine WL.skip rfl rfl rfl ?_
              refine WL.skip rfl rfl rfl ?_
              refine WL.op rfl rfl rfl (Go.Proofs.Ytobibplilbchfaa.W.quiet_pick rfl rfl rfl) ?_
              refine WL.nil ?_
              refine TW.cond rfl (fun hb => by cases hb) (fun _ => ?_)
              refine TW.exit ?_
              refine Xw.thn (by simp) ?_
              refine Xw.thn (by simp) ?_
              refine Xw.hit ?_
              refine Xw.nrm ?_
              refine TW.sreg ?_
              refine WL.op rfl rfl rfl (Go.Proofs.Ytobibplilbchfaa.W.quiet_move rfl rfl) ?_
              refine WL.op rfl rfl rfl (Go.Proofs.Ytobibplilbchfaa.W.quiet_assign rfl rfl) ?_
              refine WL.nil ?_
              refine TW.rt ?_
              refine bodyw_ret rfl rfl ?_
              have hu : usesF i = (([i.x2] ++ [i.x3]) : List Int) ++ ([] : List Int).filter (fun x => !isNo x) := by rw [usesF_eq, if_pos hc1, if_pos hc2, if_neg (by rw [hr1]; decide)]
              exact ⟨_, rfl, by rw [hu]; exact Row.base hV (fun k hk => by have := (Row.lt hV k hk).1; omega), ff⟩
            · skip
              refine WL.op rfl rfl rfl (Go.Proofs.Ytobibplilbchfaa.W.quiet_assign rfl rfl) ?_
              refine WL.nil ?_
              refine TW.seq ?_
              refine TW.sreg ?_
              refine WL.op rfl rfl rfl (Go.Proofs.Ytobibplilbchfaa.W.quiet_assign rfl rfl) ?_
              refine WL.nil ?_
              refine TW.block ?_
              refine O.loopG (n := i.args.length) (fun a _ => (intOf (a.tmps.getD 5 undef)).toNat) (fun j a W => ∃ (v : Value), Kn Try.f50.ntmps [(1, .pointer (some ⟨w.heap.size, 0, none⟩)), (3, v), (4, .slice (some ⟨gf, 0, none⟩) 10 10), (5, .int .i64 (j : Int))] a ∧ Fr (fun _ => False) w W ∧ Bx W w.heap.size #[.int .i64 i.x0, .int .i64 i.x1, .int .i64 i.x2, .int .i64 i.x3, .int .i64 i.x4, .int .i64 i.x5, .int .i64 i.x6, .int .i64 i.x7, .int .u32 i.u, .slice p.1 i.args.length p.2, .bool i.lg] 69 ∧ Bx W gf #[.bool (hD i.x0), .bool (hA i.x0), .bool (hB i.x0), .bool b3, .bool b4, .bool b5, .bool b6, .bool b7, .bool (hR i.x0), .bool b9] 4 ∧ Z ≤ W.heap.size ∧ Ints Z W v ((([i.x2] ++ [i.x3]) : List Int) ++ (i.args.take j).filter fun x => !isNo x)) (fun j a W h => by obtain ⟨_, h⟩ := h; exact O.slotv h.1 rfl) 0 (Nat.zero_le _) (fun a k => ⟨v2, (by (repeat (refine Kn.cons k rfl ?_)); exact k.base), ff, bx1, bxf, hz, by rw [List.take_zero]; first | exact hV | (simpa using hV)⟩) ?_
              rintro j a wl hj ⟨v, k, ff, bx1, bxf, hz, hV⟩
              have hA0 := hAr.fr ff
              refine TW.app (s := [(1, .pointer (some ⟨w.heap.size, 0, none⟩)), (3, v), (4, .slice (some ⟨gf, 0, none⟩) 10 10), (5, .int .i64 (j : Int))]) ?_ k
              refine TW.seq ?_
              refine TW.sreg ?_
              refine WL.op rfl rfl rfl (Go.Proofs.Ytobibplilbchfaa.W.quiet_move rfl rfl) ?_
              refine O.len rfl rfl rfl rfl rfl (qn_s_bool _ _ _ _) ?_
              refine WL.op rfl rfl rfl (Go.Proofs.Ytobibplilbchfaa.W.quiet_bin rfl rfl rfl (fun W => qb_gtr_int W _ _ _ _)) ?_
              refine O.split (fun hb => ?_) (fun hb => by simp at hb)
              refine WL.op rfl rfl rfl (Go.Proofs.Ytobibplilbchfaa.W.quiet_move rfl rfl) ?_
              refine WL.op rfl rfl rfl (Go.Proofs.Ytobibplilbchfaa.W.quiet_move rfl rfl) ?_
              refine O.ixa rfl rfl rfl rfl rfl rfl (by exact qi_s_bool _ _ _ _ _ 8 (by decide)) ?_
              refine WL.ld rfl rfl rfl rfl rfl (ql_bool _ _ _ (bxf.cell (j := 8) rfl)) ?_
              refine O.split (fun hb => ?_) (fun hb => by rw [hr1] at hb; cases hb)
              refine WL.op rfl rfl rfl (Go.Proofs.Ytobibplilbchfaa.W.quiet_pick rfl rfl rfl) ?_
              refine WL.op rfl rfl rfl (Go.Proofs.Ytobibplilbchfaa.W.quiet_move rfl rfl) ?_
              refine WL.op rfl rfl rfl (Go.Proofs.Ytobibplilbchfaa.W.quiet_move rfl rfl) ?_
              refine WL.op rfl rfl rfl (Go.Proofs.Ytobibplilbchfaa.W.quiet_field rfl rfl (fun W => (qa_api_Ins_9 W _ _))) ?_
              refine WL.ld rfl rfl rfl rfl rfl (ql_s_int _ _ _ _ _ (bx1.cell (j := 9) rfl)) ?_
              refine O.len rfl rfl rfl rfl rfl (qn_s_int _ _ _ _) ?_
              refine WL.op rfl rfl rfl (Go.Proofs.Ytobibplilbchfaa.W.quiet_bin rfl rfl rfl (fun W => qb_lss_int W _ _ _ _)) ?_
              refine O.split (fun hbj => ?_) (fun hbj => ?_)
              · skip
                have hj2 : j < i.args.length := by have := of_decide_eq_true hbj; omega
                obtain ⟨ga, oa, hpa, hca⟩ := hA0 j hj2
                refine WL.op rfl rfl rfl (Go.Proofs.Ytobibplilbchfaa.W.quiet_pick rfl rfl rfl) ?_
                refine WL.nil ?_
                refine TW.cond rfl (fun _ => ?_) (fun hb => by cases hb)
                refine TW.skip ?_
                refine TW.seq ?_
                refine TW.block ?_
                refine TW.sreg ?_
                refine WL.op rfl rfl rfl (Go.Proofs.Ytobibplilbchfaa.W.quiet_field rfl rfl (fun W => (qa_api_Ins_9 W _ _))) ?_
                refine WL.ld rfl rfl rfl rfl rfl (ql_s_int _ _ _ _ _ (bx1.cell (j := 9) rfl)) ?_
                refine WL.op rfl rfl rfl (Go.Proofs.Ytobibplilbchfaa.W.quiet_move rfl rfl) ?_
                refine O.ixa rfl rfl rfl rfl rfl rfl (by rw [hpa]; exact qi_s_int _ _ _ _ _ _ (by omega)) ?_
                refine WL.ld rfl rfl rfl rfl rfl (ql_int _ _ _ hca) ?_
                refine WL.op rfl rfl rfl (Go.Proofs.Ytobibplilbchfaa.W.quiet_bin rfl rfl rfl (fun W => qb_neq_int W _ _ _ _)) ?_
                refine O.split (fun h6 => ?_) (fun h6 => ?_)
                · skip
                  refine WL.nil ?_
                  refine TW.cond rfl (fun _ => ?_) (fun hb => by cases hb)
                  refine TW.reg ?_
                  refine WL.op rfl rfl rfl (Go.Proofs.Ytobibplilbchfaa.W.quiet_move rfl rfl) ?_
                  refine WL.op rfl rfl rfl (Go.Proofs.Ytobibplilbchfaa.W.quiet_field rfl rfl (fun W => (qa_api_Ins_9 W _ _))) ?_
                  refine WL.ld rfl rfl rfl rfl rfl (ql_s_int _ _ _ _ _ (bx1.cell (j := 9) rfl)) ?_
                  refine WL.op rfl rfl rfl (Go.Proofs.Ytobibplilbchfaa.W.quiet_move rfl rfl) ?_
                  refine O.ixa rfl rfl rfl rfl rfl rfl (by rw [hpa]; exact qi_s_int _ _ _ _ _ _ (by omega)) ?_
                  refine WL.ld rfl rfl rfl rfl rfl (ql_int _ _ _ hca) ?_
                  refine O.bsl rfl rfl rfl rfl rfl (qv_s_int_1 _ _) ?_
                  refine WL.append rfl rfl rfl rfl rfl rfl (Ints.app (i.args.getD j 0) _ hV hz (by have := uses_len i j; simp; omega)) ?_
                  rintro v7 wB7 ⟨hV7, hF7, _⟩
                  replace bx1 := bx1.fr hF7 (fun e => by have := (Row.lt hV _ e).1; omega)
                  replace bxf := bxf.fr hF7 (fun e => by have := (Row.lt hV _ e).1; omega)
                  replace ff := ff.trans' hF7 (fun q hq e => by have := (Row.lt hV q e).1; omega)
                  replace hz := Nat.le_trans hz hF7.size
                  -- world wB7
                  refine WL.op rfl rfl rfl (Go.Proofs.Ytobibplilbchfaa.W.quiet_assign rfl rfl) ?_
                  refine WL.end ?_
                  refine Xw.nblk ?_
                  refine Xw.nrm ?_
                  refine TW.reg ?_
                  refine WL.op rfl rfl rfl (Go.Proofs.Ytobibplilbchfaa.W.quiet_move rfl rfl) ?_
                  refine WL.op rfl rfl rfl (Go.Proofs.Ytobibplilbchfaa.W.quiet_bin rfl rfl rfl (fun W => qb_add_int W _ _ _ _ (by omega) (by omega))) ?_
                  refine WL.op rfl rfl rfl (Go.Proofs.Ytobibplilbchfaa.W.quiet_assign rfl rfl) ?_
                  refine WL.end ?_
                  refine Xw.any (fun a k => ?_)
                  refine ⟨j + 1, by omega, by omega, v7, (by (repeat (refine Kn.cons k rfl ?_)); exact k.base), ff, bx1, bxf, hz, ?_⟩
                  rw [uses_yes hj2 (by simpa using h6), ← List.append_assoc]
                  exact hV7
                · skip
                  refine WL.nil ?_
                  refine TW.cond rfl (fun hb => by cases hb) (fun _ => ?_)
                  refine TW.skipx ?_
                  refine Xw.nblk ?_
                  refine Xw.nrm ?_
                  refine TW.reg ?_
                  refine WL.op rfl rfl rfl (Go.Proofs.Ytobibplilbchfaa.W.quiet_move rfl rfl) ?_
                  refine WL.op rfl rfl rfl (Go.Proofs.Ytobibplilbchfaa.W.quiet_bin rfl rfl rfl (fun W => qb_add_int W _ _ _ _ (by omega) (by omega))) ?_
                  refine WL.op rfl rfl rfl (Go.Proofs.Ytobibplilbchfaa.W.quiet_assign rfl rfl) ?_
                  refine WL.end ?_
                  refine Xw.any (fun a k => ?_)
                  refine ⟨j + 1, by omega, by omega, v, (by (repeat (refine Kn.cons k rfl ?_)); exact k.base), ff, bx1, bxf, hz, ?_⟩
                  rw [uses_no hj2 (by simpa using h6)]
                  exact hV
              · skip
                have hje : j = i.args.length := by have := of_decide_eq_false hbj; omega
                subst hje
                rw [List.take_length] at hV
                refine WL.op rfl rfl rfl (Go.Proofs.Ytobibplilbchfaa.W.quiet_pick rfl rfl rfl) ?_
                refine WL.nil ?_
                refine TW.cond rfl (fun hb => by cases hb) (fun _ => ?_)
                refine TW.exit ?_
                refine Xw.thn (by simp) ?_
                refine Xw.thn (by simp) ?_
                refine Xw.hit ?_
                refine Xw.nrm ?_
                refine TW.sreg ?_
                refine WL.op rfl rfl rfl (Go.Proofs.Ytobibplilbchfaa.W.quiet_move rfl rfl) ?_
                refine WL.op rfl rfl rfl (Go.Proofs.Ytobibplilbchfaa.W.quiet_assign rfl rfl) ?_
                refine WL.nil ?_
                refine TW.rt ?_
                refine bodyw_ret rfl rfl ?_
                have hu : usesF i = (([i.x2] ++ [i.x3]) : List Int) ++ i.args.filter (fun x => !isNo x) := by rw [usesF_eq, if_pos hc1, if_pos hc2, if_pos hr1]
                exact ⟨_, rfl, by rw [hu]; exact Row.base hV (fun k hk => by have := (Row.lt hV k hk).1; omega), ff⟩
          · skip
            have hc2 : ¬(hB i.x0 = true ∧ i.x3 ≠ -1) := fun q => q.2 (by simpa using h4)
            cases hr1 : hR i.x0
            · skip
              refine WL.op rfl rfl rfl (Go.Proofs.Ytobibplilbchfaa.W.quiet_pick rfl rfl rfl) ?_
              refine WL.nil ?_
              refine TW.cond rfl (fun hb => by cases hb) (fun _ => ?_)
              refine TW.skip ?_
              refine TW.seq ?_
              refine TW.sreg ?_
              refine WL.op rfl rfl rfl (Go.Proofs.Ytobibplilbchfaa.W.quiet_assign rfl rfl) ?_
              refine WL.nil ?_
              refine TW.block ?_
              refine O.loopG (n := 0) (fun a _ => (intOf (a.tmps.getD 5 undef)).toNat) (fun j a W => ∃ (v : Value), Kn Try.f50.ntmps [(1, .pointer (some ⟨w.heap.size, 0, none⟩)), (3, v), (4, .slice (some ⟨gf, 0, none⟩) 10 10), (5, .int .i64 (j : Int))] a ∧ Fr (fun _ => False) w W ∧ Bx W w.heap.size #[.int .i64 i.x0, .int .i64 i.x1, .int .i64 i.x2, .int .i64 i.x3, .int .i64 i.x4, .int .i64 i.x5, .int .i64 i.x6, .int .i64 i.x7, .int .u32 i.u, .slice p.1 i.args.length p.2, .bool i.lg] 69 ∧ Bx W gf #[.bool (hD i.x0), .bool (hA i.x0), .bool (hB i.x0), .bool b3, .bool b4, .bool b5, .bool b6, .bool b7, .bool (hR i.x0), .bool b9] 4 ∧ Z ≤ W.heap.size ∧ Ints Z W v ((([i.x2] ++ []) : List Int) ++ (([] : List Int)).filter fun x => !isNo x)) (fun j a W h => by obtain ⟨_, h⟩ := h; exact O.slotv h.1 rfl) 0 (Nat.zero_le _) (fun a k => ⟨v1, (by (repeat (refine Kn.cons k rfl ?_)); exact k.base), ff, bx1, bxf, hz, by first | exact hV | (simpa using hV)⟩) ?_
              rintro j a wl hj ⟨v, k, ff, bx1, bxf, hz, hV⟩
              refine TW.app (s := [(1, .pointer (some ⟨w.heap.size, 0, none⟩)), (3, v), (4, .slice (some ⟨gf, 0, none⟩) 10 10), (5, .int .i64 (j : Int))]) ?_ k
              refine TW.seq ?_
              refine TW.sreg ?_
              refine WL.op rfl rfl rfl (Go.Proofs.Ytobibplilbchfaa.W.quiet_move rfl rfl) ?_
              refine O.len rfl rfl rfl rfl rfl (qn_s_bool _ _ _ _) ?_
              refine WL.op rfl rfl rfl (Go.Proofs.Ytobibplilbchfaa.W.quiet_bin rfl rfl rfl (fun W => qb_gtr_int W _ _ _ _)) ?_
              refine O.split (fun hb => ?_) (fun hb => by simp at hb)
              refine WL.op rfl rfl rfl (Go.Proofs.Ytobibplilbchfaa.W.quiet_move rfl rfl) ?_
              refine WL.op rfl rfl rfl (Go.Proofs.Ytobibplilbchfaa.W.quiet_move rfl rfl) ?_
              refine O.ixa rfl rfl rfl rfl rfl rfl (by exact qi_s_bool _ _ _ _ _ 8 (by decide)) ?_
              refine WL.ld rfl rfl rfl rfl rfl (ql_bool _ _ _ (bxf.cell (j := 8) rfl)) ?_
              refine O.split (fun hb => by rw [hr1] at hb; cases hb) (fun hb => ?_)
              refine WL.op rfl rfl rfl (Go.Proofs.Ytobibplilbchfaa.W.quiet_pick rfl rfl rfl) ?_
              refine WL.op rfl rfl rfl (Go.Proofs.Ytobibplilbchfaa.W.quiet_move rfl rfl) ?_
              refine WL.skip rfl rfl rfl ?_
              refine WL.skip rfl rfl rfl ?_
              refine WL.skip rfl rfl rfl ?_
              refine WL.skip rfl rfl rfl ?_
              refine WL.skip rfl rfl rfl ?_
              refine WL.op rfl rfl rfl (Go.Proofs.Ytobibplilbchfaa.W.quiet_pick rfl rfl rfl) ?_
              refine WL.nil ?_
              refine TW.cond rfl (fun hb => by cases hb) (fun _ => ?_)
              refine TW.exit ?_
              refine Xw.thn (by simp) ?_
              refine Xw.thn (by simp) ?_
              refine Xw.hit ?_
              refine Xw.nrm ?_
              refine TW.sreg ?_
              refine WL.op rfl rfl rfl (Go.Proofs.Ytobibplilbchfaa.W.quiet_move rfl rfl) ?_
              refine WL.op rfl rfl rfl (Go.Proofs.Ytobibplilbchfaa.W.quiet_assign rfl rfl) ?_
              refine WL.nil ?_
              refine TW.rt ?_
              refine bodyw_ret rfl rfl ?_
              have hu : usesF i = (([i.x2] ++ []) : List Int) ++ ([] : List Int).filter (fun x => !isNo x) := by rw [usesF_eq, if_pos hc1, if_neg hc2, if_neg (by rw [hr1]; decide)]
              exact ⟨_, rfl, by rw [hu]; exact Row.base hV (fun k hk => by have := (Row.lt hV k hk).1; omega), ff⟩
            · skip
              refine WL.op rfl rfl rfl (Go.Proofs.Ytobibplilbchfaa.W.quiet_pick rfl rfl rfl) ?_
              refine WL.nil ?_
              refine TW.cond rfl (fun hb => by cases hb) (fun _ => ?_)
              refine TW.skip ?_
              refine TW.seq ?_
              refine TW.sreg ?_
              refine WL.op rfl rfl rfl (Go.Proofs.Ytobibplilbchfaa.W.quiet_assign rfl rfl) ?_
              refine WL.nil ?_
              refine TW.block ?_
              refine O.loopG (n := i.args.length) (fun a _ => (intOf (a.tmps.getD 5 undef)).toNat) (fun j a W => ∃ (v : Value), Kn Try.f50.ntmps [(1, .pointer (some ⟨w.heap.size, 0, none⟩)), (3, v), (4, .slice (some ⟨gf, 0, none⟩) 10 10), (5, .int .i64 (j : Int))] a ∧ Fr (fun _ => False) w W ∧ Bx W w.heap.size #[.int .i64 i.x0, .int .i64 i.x1, .int .i64 i.x2, .int .i64 i.x3, .int .i64 i.x4, .int .i64 i.x5, .int .i64 i.x6, .int .i64 i.x7, .int .u32 i.u, .slice p.1 i.args.length p.2, .bool i.lg] 69 ∧ Bx W gf #[.bool (hD i.x0), .bool (hA i.x0), .bool (hB i.x0), .bool b3, .bool b4, .bool b5, .bool b6, .bool b7, .bool (hR i.x0), .bool b9] 4 ∧ Z ≤ W.heap.size ∧ Ints Z W v ((([i.x2] ++ []) : List Int) ++ (i.args.take j).filter fun x => !isNo x)) (fun j a W h => by obtain ⟨_, h⟩ := h; exact O.slotv h.1 rfl) 0 (Nat.zero_le _) (fun a k => ⟨v1, (by (repeat (refine Kn.cons k rfl ?_)); exact k.base), ff, bx1, bxf, hz, by rw [List.take_zero]; first | exact hV | (simpa using hV)⟩) ?_
              rintro j a wl hj ⟨v, k, ff, bx1, bxf, hz, hV⟩
              have hA0 := hAr.fr ff
              refine TW.app (s := [(1, .pointer (some ⟨w.heap.size, 0, none⟩)), (3, v), (4, .slice (some ⟨gf, 0, none⟩) 10 10), (5, .int .i64 (j : Int))]) ?_ k
              refine TW.seq ?_
              refine TW.sreg ?_
              refine WL.op rfl rfl rfl (Go.Proofs.Ytobibplilbchfaa.W.quiet_move rfl rfl) ?_
              refine O.len rfl rfl rfl rfl rfl (qn_s_bool _ _ _ _) ?_
              refine WL.op rfl rfl rfl (Go.Proofs.Ytobibplilbchfaa.W.quiet_bin rfl rfl rfl (fun W => qb_gtr_int W _ _ _ _)) ?_
              refine O.split (fun hb => ?_) (fun hb => by simp at hb)
              refine WL.op rfl rfl rfl (Go.Proofs.Ytobibplilbchfaa.W.quiet_move rfl rfl) ?_
              refine WL.op rfl rfl rfl (Go.Proofs.Ytobibplilbchfaa.W.quiet_move rfl rfl) ?_
              refine O.ixa rfl rfl rfl rfl rfl rfl (by exact qi_s_bool _ _ _ _ _ 8 (by decide)) ?_
              refine WL.ld rfl rfl rfl rfl rfl (ql_bool _ _ _ (bxf.cell (j := 8) rfl)) ?_
              refine O.split (fun hb => ?_) (fun hb => by rw [hr1] at hb; cases hb)
              refine WL.op rfl rfl rfl (Go.Proofs.Ytobibplilbchfaa.W.quiet_pick rfl rfl rfl) ?_
              refine WL.op rfl rfl rfl (Go.Proofs.Ytobibplilbchfaa.W.quiet_move rfl rfl) ?_
              refine WL.op rfl rfl rfl (Go.Proofs.Ytobibplilbchfaa.W.quiet_move rfl rfl) ?_
              refine WL.op rfl rfl rfl (Go.Proofs.Ytobibplilbchfaa.W.quiet_field rfl rfl (fun W => (qa_api_Ins_9 W _ _))) ?_
              refine WL.ld rfl rfl rfl rfl rfl (ql_s_int _ _ _ _ _ (bx1.cell (j := 9) rfl)) ?_
              refine O.len rfl rfl rfl rfl rfl (qn_s_int _ _ _ _) ?_
              refine WL.op rfl rfl rfl (Go.Proofs.Ytobibplilbchfaa.W.quiet_bin rfl rfl rfl (fun W => qb_lss_int W _ _ _ _)) ?_
              refine O.split (fun hbj => ?_) (fun hbj => ?_)
              · skip
                have hj2 : j < i.args.length := by have := of_decide_eq_true hbj; omega
                obtain ⟨ga, oa, hpa, hca⟩ := hA0 j hj2
                refine WL.op rfl rfl rfl (Go.Proofs.Ytobibplilbchfaa.W.quiet_pick rfl rfl rfl) ?_
                refine WL.nil ?_
                refine TW.cond rfl (fun _ => ?_) (fun hb => by cases hb)
                refine TW.skip ?_
                refine TW.seq ?_
                refine TW.block ?_
                refine TW.sreg ?_
                refine WL.op rfl rfl rfl (Go.Proofs.Ytobibplilbchfaa.W.quiet_field rfl rfl (fun W => (qa_api_Ins_9 W _ _))) ?_
                refine WL.ld rfl rfl rfl rfl rfl (ql_s_int _ _ _ _ _ (bx1.cell (j := 9) rfl)) ?_
                refine WL.op rfl rfl rfl (Go.Proofs.Ytobibplilbchfaa.W.quiet_move rfl rfl) ?_
                refine O.ixa rfl rfl rfl rfl rfl rfl (by rw [hpa]; exact qi_s_int _ _ _ _ _ _ (by omega)) ?_
                refine WL.ld rfl rfl rfl rfl rfl (ql_int _ _ _ hca) ?_
                refine WL.op rfl rfl rfl (Go.Proofs.Ytobibplilbchfaa.W.quiet_bin rfl rfl rfl (fun W => qb_neq_int W _ _ _ _)) ?_
                refine O.split (fun h6 => ?_) (fun h6 => ?_)
                · skip
                  refine WL.nil ?_
                  refine TW.cond rfl (fun _ => ?_) (fun hb => by cases hb)
                  refine TW.reg ?_
                  refine WL.op rfl rfl rfl (Go.Proofs.Ytobibplilbchfaa.W.quiet_move rfl rfl) ?_
                  refine WL.op rfl rfl rfl (Go.Proofs.Ytobibplilbchfaa.W.quiet_field rfl rfl (fun W => (qa_api_Ins_9 W _ _))) ?_
                  refine WL.ld rfl rfl rfl rfl rfl (ql_s_int _ _ _ _ _ (bx1.cell (j := 9) rfl)) ?_
                  refine WL.op rfl rfl rfl (Go.Proofs.Ytobibplilbchfaa.W.quiet_move rfl rfl) ?_
                  refine O.ixa rfl rfl rfl rfl rfl rfl (by rw [hpa]; exact qi_s_int _ _ _ _ _ _ (by omega)) ?_
                  refine WL.ld rfl rfl rfl rfl rfl (ql_int _ _ _ hca) ?_
                  refine O.bsl rfl rfl rfl rfl rfl (qv_s_int_1 _ _) ?_
                  refine WL.append rfl rfl rfl rfl rfl rfl (Ints.app (i.args.getD j 0) _ hV hz (by have := uses_len i j; simp; omega)) ?_
                  rintro v7 wB7 ⟨hV7, hF7, _⟩
                  replace bx1 := bx1.fr hF7 (fun e => by have := (Row.lt hV _ e).1; omega)
                  replace bxf := bxf.fr hF7 (fun e => by have := (Row.lt hV _ e).1; omega)
                  replace ff := ff.trans' hF7 (fun q hq e => by have := (Row.lt hV q e).1; omega)
                  replace hz := Nat.le_trans hz hF7.size
                  -- world wB7
                  refine WL.op rfl rfl rfl (Go.Proofs.Ytobibplilbchfaa.W.quiet_assign rfl rfl) ?_
                  refine WL.end ?_
                  refine Xw.nblk ?_
                  refine Xw.nrm ?_
                  refine TW.reg ?_
                  refine WL.op rfl rfl rfl (Go.Proofs.Ytobibplilbchfaa.W.quiet_move rfl rfl) ?_
                  refine WL.op rfl rfl rfl (Go.Proofs.Ytobibplilbchfaa.W.quiet_bin rfl rfl rfl (fun W => qb_add_int W _ _ _ _ (by omega) (by omega))) ?_
                  refine WL.op rfl rfl rfl (Go.Proofs.Ytobibplilbchfaa.W.quiet_assign rfl rfl) ?_
                  refine WL.end ?_
                  refine Xw.any (fun a k => ?_)
                  refine ⟨j + 1, by omega, by omega, v7, (by (repeat (refine Kn.cons k rfl ?_)); exact k.base), ff, bx1, bxf, hz, ?_⟩
                  rw [uses_yes hj2 (by simpa using h6), ← List.append_assoc]
                  exact hV7
                · skip
                  refine WL.nil ?_
                  refine TW.cond rfl (fun hb => by cases hb) (fun _ => ?_)
                  refine TW.skipx ?_
                  refine Xw.nblk ?_
                  refine Xw.nrm ?_
                  refine TW.reg ?_
                  refine WL.op rfl rfl rfl (Go.Proofs.Ytobibplilbchfaa.W.quiet_move rfl rfl) ?_
                  refine WL.op rfl rfl rfl (Go.Proofs.Ytobibplilbchfaa.W.quiet_bin rfl rfl rfl (fun W => qb_add_int W _ _ _ _ (by omega) (by omega))) ?_
                  refine WL.op rfl rfl rfl (Go.Proofs.Ytobibplilbchfaa.W.quiet_assign rfl rfl) ?_
                  refine WL.end ?_
                  refine Xw.any (fun a k => ?_)
                  refine ⟨j + 1, by omega, by omega, v, (by (repeat (refine Kn.cons k rfl ?_)); exact k.base), ff, bx1, bxf, hz, ?_⟩
                  rw [uses_no hj2 (by simpa using h6)]
                  exact hV
              · skip
                have hje : j = i.args.length := by have := of_decide_eq_false hbj; omega
                subst hje
                rw [List.take_length] at hV
                refine WL.op rfl rfl rfl (Go.Proofs.Ytobibplilbchfaa.W.quiet_pick rfl rfl rfl) ?_
                refine WL.nil ?_
                refine TW.cond rfl (fun hb => by cases hb) (fun _ => ?_)
                refine TW.exit ?_
                refine Xw.thn (by simp) ?_
                refine Xw.thn (by simp) ?_
                refine Xw.hit ?_
                refine Xw.nrm ?_
                refine TW.sreg ?_
                refine WL.op rfl rfl rfl (Go.Proofs.Ytobibplilbchfaa.W.quiet_move rfl rfl) ?_
                refine WL.op rfl rfl rfl (Go.Proofs.Ytobibplilbchfaa.W.quiet_assign rfl rfl) ?_
                refine WL.nil ?_
                refine TW.rt ?_
                refine bodyw_ret rfl rfl ?_
                have hu : usesF i = (([i.x2] ++ []) : List Int) ++ i.args.filter (fun x => !isNo x) := by rw [usesF_eq, if_pos hc1, if_neg hc2, if_pos hr1]
                exact ⟨_, rfl, by rw [hu]; exact Row.base hV (fun k hk => by have := (Row.lt hV k hk).1; omega), ff⟩
        · skip
          have hc2 : ¬(hB i.x0 = true ∧ i.x3 ≠ -1) := fun q => by rw [q.1] at h3; cases h3
          cases hr1 : hR i.x0
          · skip
            refine WL.op rfl rfl rfl (Go.Proofs.Ytobibplilbchfaa.W.quiet_pick rfl rfl rfl) ?_
            refine WL.op rfl rfl rfl (Go.Proofs.Ytobibplilbchfaa.W.quiet_move rfl rfl) ?_
            refine WL.skip rfl rfl rfl ?_
            refine WL.skip rfl rfl rfl ?_
            refine WL.skip rfl rfl rfl ?_
            refine WL.op rfl rfl rfl (Go.Proofs.Ytobibplilbchfaa.W.quiet_pick rfl rfl rfl) ?_
            refine WL.nil ?_
            refine TW.cond rfl (fun hb => by cases hb) (fun _ => ?_)
            refine TW.skip ?_
            refine TW.seq ?_
            refine TW.sreg ?_
            refine WL.op rfl rfl rfl (Go.Proofs.Ytobibplilbchfaa.W.quiet_assign rfl rfl) ?_
            refine WL.nil ?_
            refine TW.block ?_
            refine O.loopG (n := 0) (fun a _ => (intOf (a.tmps.getD 5 undef)).toNat) (fun j a W => ∃ (v : Value), Kn Try.f50.ntmps [(1, .pointer (some ⟨w.heap.size, 0, none⟩)), (3, v), (4, .slice (some ⟨gf, 0, none⟩) 10 10), (5, .int .i64 (j : Int))] a ∧ Fr (fun _ => False) w W ∧ Bx W w.heap.size #[.int .i64 i.x0, .int .i64 i.x1, .int .i64 i.x2, .int .i64 i.x3, .int .i64 i.x4, .int .i64 i.x5, .int .i64 i.x6, .int .i64 i.x7, .int .u32 i.u, .slice p.1 i.args.length p.2, .bool i.lg] 69 ∧ Bx W gf #[.bool (hD i.x0), .bool (hA i.x0), .bool (hB i.x0), .bool b3, .bool b4, .bool b5, .bool b6, .bool b7, .bool (hR i.x0), .bool b9] 4 ∧ Z ≤ W.heap.size ∧ Ints Z W v ((([i.x2] ++ []) : List Int) ++ (([] : List Int)).filter fun x => !isNo x)) (fun j a W h => by obtain ⟨_, h⟩ := h; exact O.slotv h.1 rfl) 0 (Nat.zero_le _) (fun a k => ⟨v1, (by (repeat (refine Kn.cons k rfl ?_)); exact k.base), ff, bx1, bxf, hz, by first | exact hV | (simpa using hV)⟩) ?_
            rintro j a wl hj ⟨v, k, ff, bx1, bxf, hz, hV⟩
            refine TW.app (s := [(1, .pointer (some ⟨w.heap.size, 0, none⟩)), (3, v), (4, .slice (some ⟨gf, 0, none⟩) 10 10), (5, .int .i64 (j : Int))]) ?_ k
            refine TW.seq ?_
            refine TW.sreg ?_
            refine WL.op rfl rfl rfl (Go.Proofs.Ytobibplilbchfaa.W.quiet_move rfl rfl) ?_
            refine O.len rfl rfl rfl rfl rfl (qn_s_bool _ _ _ _) ?_
            refine WL.op rfl rfl rfl (Go.Proofs.Ytobibplilbchfaa.W.quiet_bin rfl rfl rfl (fun W => qb_gtr_int W _ _ _ _)) ?_
            refine O.split (fun hb => ?_) (fun hb => by simp at hb)
            refine WL.op rfl rfl rfl (Go.Proofs.Ytobibplilbchfaa.W.quiet_move rfl rfl) ?_
            refine WL.op rfl rfl rfl (Go.Proofs.Ytobibplilbchfaa.W.quiet_move rfl rfl) ?_
            refine O.ixa rfl rfl rfl rfl rfl rfl (by exact qi_s_bool _ _ _ _ _ 8 (by decide)) ?_
            refine WL.ld rfl rfl rfl rfl rfl (ql_bool _ _ _ (bxf.cell (j := 8) rfl)) ?_
            refine O.split (fun hb => by rw [hr1] at hb; cases hb) (fun hb => ?_)
            refine WL.op rfl rfl rfl (Go.Proofs.Ytobibplilbchfaa.W.quiet_pick rfl rfl rfl) ?_
            refine WL.op rfl rfl rfl (Go.Proofs.Ytobibplilbchfaa.W.quiet_move rfl rfl) ?_
            refine WL.skip rfl rfl rfl ?_
            refine WL.skip rfl rfl rfl ?_
            refine WL.skip rfl rfl rfl ?_
            refine WL.skip rfl rfl rfl ?_
            refine WL.skip rfl rfl rfl ?_
            refine WL.op rfl rfl rfl (Go.Proofs.Ytobibplilbchfaa.W.quiet_pick rfl rfl rfl) ?_
            refine WL.nil ?_
            refine TW.cond rfl (fun hb => by cases hb) (fun _ => ?_)
            refine TW.exit ?_
            refine Xw.thn (by simp) ?_
            refine Xw.thn (by simp) ?_
            refine Xw.hit ?_
            refine Xw.nrm ?_
            refine TW.sreg ?_
            refine WL.op rfl rfl rfl (Go.Proofs.Ytobibplilbchfaa.W.quiet_move rfl rfl) ?_
            refine WL.op rfl rfl rfl (Go.Proofs.Ytobibplilbchfaa.W.quiet_assign rfl rfl) ?_
            refine WL.nil ?_
            refine TW.rt ?_
            refine bodyw_ret rfl rfl ?_
            have hu : usesF i = (([i.x2] ++ []) : List Int) ++ ([] : List Int).filter (fun x => !isNo x) := by rw [usesF_eq, if_pos hc1, if_neg hc2, if_neg (by rw [hr1]; decide)]
            exact ⟨_, rfl, by rw [hu]; exact Row.base hV (fun k hk => by have := (Row.lt hV k hk).1; omega), ff⟩
          · skip
            refine WL.op rfl rfl rfl (Go.Proofs.Ytobibplilbchfaa.W.quiet_pick rfl rfl rfl) ?_
            refine WL.op rfl rfl rfl (Go.Proofs.Ytobibplilbchfaa.W.quiet_move rfl rfl) ?_
            refine WL.skip rfl rfl rfl ?_
            refine WL.skip rfl rfl rfl ?_
            refine WL.skip rfl rfl rfl ?_
            refine WL.op rfl rfl rfl (Go.Proofs.Ytobibplilbchfaa.W.quiet_pick rfl rfl rfl) ?_
            refine WL.nil ?_
            refine TW.cond rfl (fun hb => by cases hb) (fun _ => ?_)
            refine TW.skip ?_
            refine TW.seq ?_
            refine TW.sreg ?_
            refine WL.op rfl rfl rfl (Go.Proofs.Ytobibplilbchfaa.W.quiet_assign rfl rfl) ?_
            refine WL.nil ?_
            refine TW.block ?_
            refine O.loopG (n := i.args.length) (fun a _ => (intOf (a.tmps.getD 5 undef)).toNat) (fun j a W => ∃ (v : Value), Kn Try.f50.ntmps [(1, .pointer (some ⟨w.heap.size, 0, none⟩)), (3, v), (4, .slice (some ⟨gf, 0, none⟩) 10 10), (5, .int .i64 (j : Int))] a ∧ Fr (fun _ => False) w W ∧ Bx W w.heap.size #[.int .i64 i.x0, .int .i64 i.x1, .int .i64 i.x2, .int .i64 i.x3, .int .i64 i.x4, .int .i64 i.x5, .int .i64 i.x6, .int .i64 i.x7, .int .u32 i.u, .slice p.1 i.args.length p.2, .bool i.lg] 69 ∧ Bx W gf #[.bool (hD i.x0), .bool (hA i.x0), .bool (hB i.x0), .bool b3, .bool b4, .bool b5, .bool b6, .bool b7, .bool (hR i.x0), .bool b9] 4 ∧ Z ≤ W.heap.size ∧ Ints Z W v ((([i.x2] ++ []) : List Int) ++ (i.args.take j).filter fun x => !isNo x)) (fun j a W h => by obtain ⟨_, h⟩ := h; exact O.slotv h.1 rfl) 0 (Nat.zero_le _) (fun a k => ⟨v1, (by (repeat (refine Kn.cons k rfl ?_)); exact k.base), ff, bx1, bxf, hz, by rw [List.take_zero]; first | exact hV | (simpa using hV)⟩) ?_
            rintro j a wl hj ⟨v, k, ff, bx1, bxf, hz, hV⟩
            have hA0 := hAr.fr ff
            refine TW.app (s := [(1, .pointer (some ⟨w.heap.size, 0, none⟩)), (3, v), (4, .slice (some ⟨gf, 0, none⟩) 10 10), (5, .int .i64 (j : Int))]) ?_ k
            refine TW.seq ?_
            refine TW.sreg ?_
            refine WL.op rfl rfl rfl (Go.Proofs.Ytobibplilbchfaa.W.quiet_move rfl rfl) ?_
            refine O.len rfl rfl rfl rfl rfl (qn_s_bool _ _ _ _) ?_
            refine WL.op rfl rfl rfl (Go.Proofs.Ytobibplilbchfaa.W.quiet_bin rfl rfl rfl (fun W => qb_gtr_int W _ _ _ _)) ?_
            refine O.split (fun hb => ?_) (fun hb => by simp at hb)
            refine WL.op rfl rfl rfl (Go.Proofs.Ytobibplilbchfaa.W.quiet_move rfl rfl) ?_
            refine WL.op rfl rfl rfl (Go.Proofs.Ytobibplilbchfaa.W.quiet_move rfl rfl) ?_
            refine O.ixa rfl rfl rfl rfl rfl rfl (by exact qi_s_bool _ _ _ _ _ 8 (by decide)) ?_
            refine WL.ld rfl rfl rfl rfl rfl (ql_bool _ _ _ (bxf.cell (j := 8) rfl)) ?_
            refine O.split (fun hb => ?_) (fun hb => by rw [hr1] at hb; cases hb)
            refine WL.op rfl rfl rfl (Go.Proofs.Ytobibplilbchfaa.W.quiet_pick rfl rfl rfl) ?_
            refine WL.op rfl rfl rfl (Go.Proofs.Ytobibplilbchfaa.W.quiet_move rfl rfl) ?_
            refine WL.op rfl rfl rfl (Go.Proofs.Ytobibplilbchfaa.W.quiet_move rfl rfl) ?_
            refine WL.op rfl rfl rfl (Go.Proofs.Ytobibplilbchfaa.W.quiet_field rfl rfl (fun W => (qa_api_Ins_9 W _ _))) ?_
            refine WL.ld rfl rfl rfl rfl rfl (ql_s_int _ _ _ _ _ (bx1.cell (j := 9) rfl)) ?_
            refine O.len rfl rfl rfl rfl rfl (qn_s_int _ _ _ _) ?_
            refine WL.op rfl rfl rfl (Go.Proofs.Ytobibplilbchfaa.W.quiet_bin rfl rfl rfl (fun W => qb_lss_int W _ _ _ _)) ?_
            refine O.split (fun hbj => ?_) (fun hbj => ?_)
            · skip
              have hj2 : j < i.args.length := by have := of_decide_eq_true hbj; omega
              obtain ⟨ga, oa, hpa, hca⟩ := hA0 j hj2
              refine WL.op rfl rfl rfl (Go.Proofs.Ytobibplilbchfaa.W.quiet_pick rfl rfl rfl) ?_
              refine WL.nil ?_
              refine TW.cond rfl (fun _ => ?_) (fun hb => by cases hb)
              refine TW.skip ?_
              refine TW.seq ?_
              refine TW.block ?_
              refine TW.sreg ?_
              refine WL.op rfl rfl rfl (Go.Proofs.Ytobibplilbchfaa.W.quiet_field rfl rfl (fun W => (qa_api_Ins_9 W _ _))) ?_
              refine WL.ld rfl rfl rfl rfl rfl (ql_s_int _ _ _ _ _ (bx1.cell (j := 9) rfl)) ?_
              refine WL.op rfl rfl rfl (Go.Proofs.Ytobibplilbchfaa.W.quiet_move rfl rfl) ?_
              refine O.ixa rfl rfl rfl rfl rfl rfl (by rw [hpa]; exact qi_s_int _ _ _ _ _ _ (by omega)) ?_
              refine WL.ld rfl rfl rfl rfl rfl (ql_int _ _ _ hca) ?_
              refine WL.op rfl rfl rfl (Go.Proofs.Ytobibplilbchfaa.W.quiet_bin rfl rfl rfl (fun W => qb_neq_int W _ _ _ _)) ?_
              refine O.split (fun h6 => ?_) (fun h6 => ?_)
              · skip
                refine WL.nil ?_
                refine TW.cond rfl (fun _ => ?_) (fun hb => by cases hb)
                refine TW.reg ?_
                refine WL.op rfl rfl rfl (Go.Proofs.Ytobibplilbchfaa.W.quiet_move rfl rfl) ?_
                refine WL.op rfl rfl rfl (Go.Proofs.Ytobibplilbchfaa.W.quiet_field rfl rfl (fun W => (qa_api_Ins_9 W _ _))) ?_
                refine WL.ld rfl rfl rfl rfl rfl (ql_s_int _ _ _ _ _ (bx1.cell (j := 9) rfl)) ?_
                refine WL.op rfl rfl rfl (Go.Proofs.Ytobibplilbchfaa.W.quiet_move rfl rfl) ?_
                refine O.ixa rfl rfl rfl rfl rfl rfl (by rw [hpa]; exact qi_s_int _ _ _ _ _ _ (by omega)) ?_
                refine WL.ld rfl rfl rfl rfl rfl (ql_int _ _ _ hca) ?_
                refine O.bsl rfl rfl rfl rfl rfl (qv_s_int_1 _ _) ?_
                refine WL.append rfl rfl rfl rfl rfl rfl (Ints.app (i.args.getD j 0) _ hV hz (by have := uses_len i j; simp; omega)) ?_
                rintro v7 wB7 ⟨hV7, hF7, _⟩
                replace bx1 := bx1.fr hF7 (fun e => by have := (Row.lt hV _ e).1; omega)
                replace bxf := bxf.fr hF7 (fun e => by have := (Row.lt hV _ e).1; omega)
                replace ff := ff.trans' hF7 (fun q hq e => by have := (Row.lt hV q e).1; omega)
                replace hz := Nat.le_trans hz hF7.size
                -- world wB7
                refine WL.op rfl rfl rfl (Go.Proofs.Ytobibplilbchfaa.W.quiet_assign rfl rfl) ?_
                refine WL.end ?_
                refine Xw.nblk ?_
                refine Xw.nrm ?_
                refine TW.reg ?_
                refine WL.op rfl rfl rfl (Go.Proofs.Ytobibplilbchfaa.W.quiet_move rfl rfl) ?_
                refine WL.op rfl rfl rfl (Go.Proofs.Ytobibplilbchfaa.W.quiet_bin rfl rfl rfl (fun W => qb_add_int W _ _ _ _ (by omega) (by omega))) ?_
                refine WL.op rfl rfl rfl (Go.Proofs.Ytobibplilbchfaa.W.quiet_assign rfl rfl) ?_
                refine WL.end ?_
                refine Xw.any (fun a k => ?_)
                refine ⟨j + 1, by omega, by omega, v7, (by (repeat (refine Kn.cons k rfl ?_)); exact k.base), ff, bx1, bxf, hz, ?_⟩
                rw [uses_yes hj2 (by simpa using h6), ← List.append_assoc]
                exact hV7
              · skip
                refine WL.nil ?_
                refine TW.cond rfl (fun hb => by cases hb) (fun _ => ?_)
                refine TW.skipx ?_
                refine Xw.nblk ?_
                refine Xw.nrm ?_
                refine TW.reg ?_
                refine WL.op rfl rfl rfl (Go.Proofs.Ytobibplilbchfaa.W.quiet_move rfl rfl) ?_
                refine WL.op rfl rfl rfl (Go.Proofs.Ytobibplilbchfaa.W.quiet_bin rfl rfl rfl (fun W => qb_add_int W _ _ _ _ (by omega) (by omega))) ?_
                refine WL.op rfl rfl rfl (Go.Proofs.Ytobibplilbchfaa.W.quiet_assign rfl rfl) ?_
                refine WL.end ?_
                refine Xw.any (fun a k => ?_)
                refine ⟨j + 1, by omega, by omega, v, (by (repeat (refine Kn.cons k rfl ?_)); exact k.base), ff, bx1, bxf, hz, ?_⟩
                rw [uses_no hj2 (by simpa using h6)]
                exact hV
            · skip
              have hje : j = i.args.length := by have := of_decide_eq_false hbj; omega
              subst hje
              rw [List.take_length] at hV
              refine WL.op rfl rfl rfl (Go.Proofs.Ytobibplilbchfaa.W.quiet_pick rfl rfl rfl) ?_
              refine WL.nil ?_
              refine TW.cond rfl (fun hb => by cases hb) (fun _ => ?_)
              refine TW.exit ?_
              refine Xw.thn (by simp) ?_
              refine Xw.thn (by simp) ?_
              refine Xw.hit ?_
              refine Xw.nrm ?_
              refine TW.sreg ?_
              refine WL.op rfl rfl rfl (Go.Proofs.Ytobibplilbchfaa.W.quiet_move rfl rfl) ?_
              refine WL.op rfl rfl rfl (Go.Proofs.Ytobibplilbchfaa.W.quiet_assign rfl rfl) ?_
              refine WL.nil ?_
              refine TW.rt ?_
              refine bodyw_ret rfl rfl ?_
              have hu : usesF i = (([i.x2] ++ []) : List Int) ++ i.args.filter (fun x => !isNo x) := by rw [usesF_eq, if_pos hc1, if_neg hc2, if_pos hr1]
              exact ⟨_, rfl, by rw [hu]; exact Row.base hV (fun k hk => by have := (Row.lt hV k hk).1; omega), ff⟩
      · skip
        have hc1 : ¬(hA i.x0 = true ∧ i.x2 ≠ -1) := fun q => q.2 (by simpa using h2)
        refine WL.op rfl rfl rfl (Go.Proofs.Ytobibplilbchfaa.W.quiet_pick rfl rfl rfl) ?_
        refine WL.nil ?_
        refine TW.cond rfl (fun hb => by cases hb) (fun _ => ?_)
        refine TW.skip ?_
        refine TW.seq ?_
        refine TW.sreg ?_
        refine WL.op rfl rfl rfl (Go.Proofs.Ytobibplilbchfaa.W.quiet_move rfl rfl) ?_
        refine O.len rfl rfl rfl rfl rfl (qn_s_bool _ _ _ _) ?_
        refine WL.op rfl rfl rfl (Go.Proofs.Ytobibplilbchfaa.W.quiet_bin rfl rfl rfl (fun W => qb_gtr_int W _ _ _ _)) ?_
        refine O.split (fun hb => ?_) (fun hb => by simp at hb)
        refine WL.op rfl rfl rfl (Go.Proofs.Ytobibplilbchfaa.W.quiet_move rfl rfl) ?_
        refine WL.op rfl rfl rfl (Go.Proofs.Ytobibplilbchfaa.W.quiet_move rfl rfl) ?_
        refine O.ixa rfl rfl rfl rfl rfl rfl (by exact qi_s_bool _ _ _ _ _ 2 (by decide)) ?_
        refine WL.ld rfl rfl rfl rfl rfl (ql_bool _ _ _ (bxf.cell (j := 2) rfl)) ?_
        refine O.split (fun h3 => ?_) (fun h3 => ?_)
        · skip
          refine WL.op rfl rfl rfl (Go.Proofs.Ytobibplilbchfaa.W.quiet_pick rfl rfl rfl) ?_
          refine WL.op rfl rfl rfl (Go.Proofs.Ytobibplilbchfaa.W.quiet_move rfl rfl) ?_
          refine WL.op rfl rfl rfl (Go.Proofs.Ytobibplilbchfaa.W.quiet_field rfl rfl (fun W => (qa_api_Ins_3 W _ _))) ?_
          refine WL.ld rfl rfl rfl rfl rfl (ql_int _ _ _ (bx1.cell (j := 3) rfl)) ?_
          refine WL.op rfl rfl rfl (Go.Proofs.Ytobibplilbchfaa.W.quiet_bin rfl rfl rfl (fun W => qb_neq_int W _ _ _ _)) ?_
          refine O.split (fun h4 => ?_) (fun h4 => ?_)
          · skip
            have hc2 : hB i.x0 = true ∧ i.x3 ≠ -1 := ⟨h3, by simpa using h4⟩
            refine WL.op rfl rfl rfl (Go.Proofs.Ytobibplilbchfaa.W.quiet_pick rfl rfl rfl) ?_
            refine WL.nil ?_
            refine TW.cond rfl (fun _ => ?_) (fun hb => by cases hb)
            refine TW.reg ?_
            refine WL.op rfl rfl rfl (Go.Proofs.Ytobibplilbchfaa.W.quiet_move rfl rfl) ?_
            refine WL.op rfl rfl rfl (Go.Proofs.Ytobibplilbchfaa.W.quiet_field rfl rfl (fun W => (qa_api_Ins_3 W _ _))) ?_
            refine WL.ld rfl rfl rfl rfl rfl (ql_int _ _ _ (bx1.cell (j := 3) rfl)) ?_
            refine O.bsl rfl rfl rfl rfl rfl (qv_s_int_1 _ _) ?_
            refine WL.append rfl rfl rfl rfl rfl rfl (Ints.app i.x3 _ hV hz (by simp)) ?_
            rintro v2 wB2 ⟨hV2, hF2, _⟩
            replace bx1 := bx1.fr hF2 (fun e => by have := (Row.lt hV _ e).1; omega)
            replace bxf := bxf.fr hF2 (fun e => by have := (Row.lt hV _ e).1; omega)
            replace ff := ff.trans' hF2 (fun q hq e => by have := (Row.lt hV q e).1; omega)
            replace hA0 := hAr.fr ff
            replace hV := hV2
            replace hz := Nat.le_trans hz hF2.size
            -- world wB2
            cases hr1 : hR i.x0
            · skip
              refine WL.op rfl rfl rfl (Go.Proofs.Ytobibplilbchfaa.W.quiet_assign rfl rfl) ?_
              refine WL.nil ?_
              refine TW.seq ?_
              refine TW.sreg ?_
              refine WL.op rfl rfl rfl (Go.Proofs.Ytobibplilbchfaa.W.quiet_assign rfl rfl) ?_
              refine WL.nil ?_
              refine TW.block ?_
              refine O.loopG (n := 0) (fun a _ => (intOf (a.tmps.getD 5 undef)).toNat) (fun j a W => ∃ (v : Value), Kn Try.f50.ntmps [(1, .pointer (some ⟨w.heap.size, 0, none⟩)), (3, v), (4, .slice (some ⟨gf, 0, none⟩) 10 10), (5, .int .i64 (j : Int))] a ∧ Fr (fun _ => False) w W ∧ Bx W w.heap.size #[.int .i64 i.x0, .int .i64 i.x1, .int .i64 i.x2, .int .i64 i.x3, .int .i64 i.x4, .int .i64 i.x5, .int .i64 i.x6, .int .i64 i.x7, .int .u32 i.u, .slice p.1 i.args.length p.2, .bool i.lg] 69 ∧ Bx W gf #[.bool (hD i.x0), .bool (hA i.x0), .bool (hB i.x0), .bool b3, .bool b4, .bool b5, .bool b6, .bool b7, .bool (hR i.x0), .bool b9] 4 ∧ Z ≤ W.heap.size ∧ Ints Z W v ((([] ++ [i.x3]) : List Int) ++ (([] : List Int)).filter fun x => !isNo x)) (fun j a W h => by obtain ⟨_, h⟩ := h; exact O.slotv h.1 rfl) 0 (Nat.zero_le _) (fun a k => ⟨v2, (by (repeat (refine Kn.cons k rfl ?_)); exact k.base), ff, bx1, bxf, hz, by first | exact hV | (simpa using hV)⟩) ?_
              rintro j a wl hj ⟨v, k, ff, bx1, bxf, hz, hV⟩
              refine TW.app (s := [(1, .pointer (some ⟨w.heap.size, 0, none⟩)), (3, v), (4, .slice (some ⟨gf, 0, none⟩) 10 10), (5, .int .i64 (j : Int))]) ?_ k
              refine TW.seq ?_
              refine TW.sreg ?_
              refine WL.op rfl rfl rfl (Go.Proofs.Ytobibplilbchfaa.W.quiet_move rfl rfl) ?_
              refine O.len rfl rfl rfl rfl rfl (qn_s_bool _ _ _ _) ?_
              refine WL.op rfl rfl rfl (Go.Proofs.Ytobibplilbchfaa.W.quiet_bin rfl rfl rfl (fun W => qb_gtr_int W _ _ _ _)) ?_
              refine O.split (fun hb => ?_) (fun hb => by simp at hb)
              refine WL.op rfl rfl rfl (Go.Proofs.Ytobibplilbchfaa.W.quiet_move rfl rfl) ?_
              refine WL.op rfl rfl rfl (Go.Proofs.Ytobibplilbchfaa.W.quiet_move rfl rfl) ?_
              refine O.ixa rfl rfl rfl rfl rfl rfl (by exact qi_s_bool _ _ _ _ _ 8 (by decide)) ?_
              refine WL.ld rfl rfl rfl rfl rfl (ql_bool _ _ _ (bxf.cell (j := 8) rfl)) ?_
              refine O.split (fun hb => by rw [hr1] at hb; cases hb) (fun hb => ?_)
              refine WL.op rfl rfl rfl (Go.Proofs.Ytobibplilbchfaa.W.quiet_pick rfl rfl rfl) ?_
              refine WL.op rfl rfl rfl (Go.Proofs.Ytobibplilbchfaa.W.quiet_move rfl rfl) ?_
              refine WL.skip rfl rfl rfl ?_
              refine WL.skip rfl rfl rfl ?_
              refine WL.skip rfl rfl rfl ?_
              refine WL.skip rfl rfl rfl ?_
              refine WL.skip rfl rfl rfl ?_
              refine WL.op rfl rfl rfl (Go.Proofs.Ytobibplilbchfaa.W.quiet_pick rfl rfl rfl) ?_
              refine WL.nil ?_
              refine TW.cond rfl (fun hb => by cases hb) (fun _ => ?_)
              refine TW.exit ?_
              refine Xw.thn (by simp) ?_
              refine Xw.thn (by simp) ?_
              refine Xw.hit ?_
              refine Xw.nrm ?_
              refine TW.sreg ?_
              refine WL.op rfl rfl rfl (Go.Proofs.Ytobibplilbchfaa.W.quiet_move rfl rfl) ?_
              refine WL.op rfl rfl rfl (Go.Proofs.Ytobibplilbchfaa.W.quiet_assign rfl rfl) ?_
              refine WL.nil ?_
              refine TW.rt ?_
              refine bodyw_ret rfl rfl ?_
              have hu : usesF i = (([] ++ [i.x3]) : List Int) ++ ([] : List Int).filter (fun x => !isNo x) := by rw [usesF_eq, if_neg hc1, if_pos hc2, if_neg (by rw [hr1]; decide)]
              exact ⟨_, rfl, by rw [hu]; exact Row.base hV (fun k hk => by have := (Row.lt hV k hk).1; omega), ff⟩
            · skip
              refine WL.op rfl rfl rfl (Go.Proofs.Ytobibplilbchfaa.W.quiet_assign rfl rfl) ?_
              refine WL.nil ?_
              refine TW.seq ?_
              refine TW.sreg ?_
              refine WL.op rfl rfl rfl (Go.Proofs.Ytobibplilbchfaa.W.quiet_assign rfl rfl) ?_
              refine WL.nil ?_
              refine TW.block ?_
              refine O.loopG (n := i.args.length) (fun a _ => (intOf (a.tmps.getD 5 undef)).toNat) (fun j a W => ∃ (v : Value), Kn Try.f50.ntmps [(1, .pointer (some ⟨w.heap.size, 0, none⟩)), (3, v), (4, .slice (some ⟨gf, 0, none⟩) 10 10), (5, .int .i64 (j : Int))] a ∧ Fr (fun _ => False) w W ∧ Bx W w.heap.size #[.int .i64 i.x0, .int .i64 i.x1, .int .i64 i.x2, .int .i64 i.x3, .int .i64 i.x4, .int .i64 i.x5, .int .i64 i.x6, .int .i64 i.x7, .int .u32 i.u, .slice p.1 i.args.length p.2, .bool i.lg] 69 ∧ Bx W gf #[.bool (hD i.x0), .bool (hA i.x0), .bool (hB i.x0), .bool b3, .bool b4, .bool b5, .bool b6, .bool b7, .bool (hR i.x0), .bool b9] 4 ∧ Z ≤ W.heap.size ∧ Ints Z W v ((([] ++ [i.x3]) : List Int) ++ (i.args.take j).filter fun x => !isNo x)) (fun j a W h => by obtain ⟨_, h⟩ := h; exact O.slotv h.1 rfl) 0 (Nat.zero_le _) (fun a k => ⟨v2, (by (repeat (refine Kn.cons k rfl ?_)); exact k.base), ff, bx1, bxf, hz, by rw [List.take_zero]; first | exact hV | (simpa using hV)⟩) ?_
              rintro j a wl hj ⟨v, k, ff, bx1, bxf, hz, hV⟩
              have hA0 := hAr.fr ff
              refine TW.app (s := [(1, .pointer (some ⟨w.heap.size, 0, none⟩)), (3, v), (4, .slice (some ⟨gf, 0, none⟩) 10 10), (5, .int .i64 (j : Int))]) ?_ k
              refine TW.seq ?_
              refine TW.sreg ?_
              refine WL.op rfl rfl rfl (Go.Proofs.Ytobibplilbchfaa.W.quiet_move rfl rfl) ?_
              refine O.len rfl rfl rfl rfl rfl (qn_s_bool _ _ _ _) ?_
              refine WL.op rfl rfl rfl (Go.Proofs.Ytobibplilbchfaa.W.quiet_bin rfl rfl rfl (fun W => qb_gtr_int W _ _ _ _)) ?_
              refine O.split (fun hb => ?_) (fun hb => by simp at hb)
              refine WL.op rfl rfl rfl (Go.Proofs.Ytobibplilbchfaa.W.quiet_move rfl rfl) ?_
              refine WL.op rfl rfl rfl (Go.Proofs.Ytobibplilbchfaa.W.quiet_move rfl rfl) ?_
              refine O.ixa rfl rfl rfl rfl rfl rfl (by exact qi_s_bool _ _ _ _ _ 8 (by decide)) ?_
              refine WL.ld rfl rfl rfl rfl rfl (ql_bool _ _ _ (bxf.cell (j := 8) rfl)) ?_
              refine O.split (fun hb => ?_) (fun hb => by rw [hr1] at hb; cases hb)
              refine WL.op rfl rfl rfl (Go.Proofs.Ytobibplilbchfaa.W.quiet_pick rfl rfl rfl) ?_
              refine WL.op rfl rfl rfl (Go.Proofs.Ytobibplilbchfaa.W.quiet_move rfl rfl) ?_
              refine WL.op rfl rfl rfl (Go.Proofs.Ytobibplilbchfaa.W.quiet_move rfl rfl) ?_
              refine WL.op rfl rfl rfl (Go.Proofs.Ytobibplilbchfaa.W.quiet_field rfl rfl (fun W => (qa_api_Ins_9 W _ _))) ?_
              refine WL.ld rfl rfl rfl rfl rfl (ql_s_int _ _ _ _ _ (bx1.cell (j := 9) rfl)) ?_
              refine O.len rfl rfl rfl rfl rfl (qn_s_int _ _ _ _) ?_
              refine WL.op rfl rfl rfl (Go.Proofs.Ytobibplilbchfaa.W.quiet_bin rfl rfl rfl (fun W => qb_lss_int W _ _ _ _)) ?_
              refine O.split (fun hbj => ?_) (fun hbj => ?_)
              · skip
                have hj2 : j < i.args.length := by have := of_decide_eq_true hbj; omega
                obtain ⟨ga, oa, hpa, hca⟩ := hA0 j hj2
                refine WL.op rfl rfl rfl (Go.Proofs.Ytobibplilbchfaa.W.quiet_pick rfl rfl rfl) ?_
                refine WL.nil ?_
                refine TW.cond rfl (fun _ => ?_) (fun hb => by cases hb)
                refine TW.skip ?_
                refine TW.seq ?_
                refine TW.block ?_
                refine TW.sreg ?_
                refine WL.op rfl rfl rfl (Go.Proofs.Ytobibplilbchfaa.W.quiet_field rfl rfl (fun W => (qa_api_Ins_9 W _ _))) ?_
                refine WL.ld rfl rfl rfl rfl rfl (ql_s_int _ _ _ _ _ (bx1.cell (j := 9) rfl)) ?_
                refine WL.op rfl rfl rfl (Go.Proofs.Ytobibplilbchfaa.W.quiet_move rfl rfl) ?_
                refine O.ixa rfl rfl rfl rfl rfl rfl (by rw [hpa]; exact qi_s_int _ _ _ _ _ _ (by omega)) ?_
                refine WL.ld rfl rfl rfl rfl rfl (ql_int _ _ _ hca) ?_
                refine WL.op rfl rfl rfl (Go.Proofs.Ytobibplilbchfaa.W.quiet_bin rfl rfl rfl (fun W => qb_neq_int W _ _ _ _)) ?_
                refine O.split (fun h6 => ?_) (fun h6 => ?_)
                · skip
                  refine WL.nil ?_
                  refine TW.cond rfl (fun _ => ?_) (fun hb => by cases hb)
                  refine TW.reg ?_
                  refine WL.op rfl rfl rfl (Go.Proofs.Ytobibplilbchfaa.W.quiet_move rfl rfl) ?_
                  refine WL.op rfl rfl rfl (Go.Proofs.Ytobibplilbchfaa.W.quiet_field rfl rfl (fun W => (qa_api_Ins_9 W _ _))) ?_
                  refine WL.ld rfl rfl rfl rfl rfl (ql_s_int _ _ _ _ _ (bx1.cell (j := 9) rfl)) ?_
                  refine WL.op rfl rfl rfl (Go.Proofs.Ytobibplilbchfaa.W.quiet_move rfl rfl) ?_
                  refine O.ixa rfl rfl rfl rfl rfl rfl (by rw [hpa]; exact qi_s_int _ _ _ _ _ _ (by omega)) ?_
                  refine WL.ld rfl rfl rfl rfl rfl (ql_int _ _ _ hca) ?_
                  refine O.bsl rfl rfl rfl rfl rfl (qv_s_int_1 _ _) ?_
                  refine WL.append rfl rfl rfl rfl rfl rfl (Ints.app (i.args.getD j 0) _ hV hz (by have := uses_len i j; simp; omega)) ?_
                  rintro v7 wB7 ⟨hV7, hF7, _⟩
                  replace bx1 := bx1.fr hF7 (fun e => by have := (Row.lt hV _ e).1; omega)
                  replace bxf := bxf.fr hF7 (fun e => by have := (Row.lt hV _ e).1; omega)
                  replace ff := ff.trans' hF7 (fun q hq e => by have := (Row.lt hV q e).1; omega)
                  replace hz := Nat.le_trans hz hF7.size
                  -- world wB7
                  refine WL.op rfl rfl rfl (Go.Proofs.Ytobibplilbchfaa.W.quiet_assign rfl rfl) ?_
                  refine WL.end ?_
                  refine Xw.nblk ?_
                  refine Xw.nrm ?_
                  refine TW.reg ?_
                  refine WL.op rfl rfl rfl (Go.Proofs.Ytobibplilbchfaa.W.quiet_move rfl rfl) ?_
                  refine WL.op rfl rfl rfl (Go.Proofs.Ytobibplilbchfaa.W.quiet_bin rfl rfl rfl (fun W => qb_add_int W _ _ _ _ (by omega) (by omega))) ?_
                  refine WL.op rfl rfl rfl (Go.Proofs.Ytobibplilbchfaa.W.quiet_assign rfl rfl) ?_
                  refine WL.end ?_
                  refine Xw.any (fun a k => ?_)
                  refine ⟨j + 1, by omega, by omega, v7, (by (repeat (refine Kn.cons k rfl ?_)); exact k.base), ff, bx1, bxf, hz, ?_⟩
                  rw [uses_yes hj2 (by simpa using h6), ← List.append_assoc]
                  exact hV7
                · skip
                  refine WL.nil ?_
                  refine TW.cond rfl (fun hb => by cases hb) (fun _ => ?_)
                  refine TW.skipx ?_
                  refine Xw.nblk ?_
                  refine Xw.nrm ?_
                  refine TW.reg ?_
                  refine WL.op rfl rfl rfl (Go.Proofs.Ytobibplilbchfaa.W.quiet_move rfl rfl) ?_
                  refine WL.op rfl rfl rfl (Go.Proofs.Ytobibplilbchfaa.W.quiet_bin rfl rfl rfl (fun W => qb_add_int W _ _ _ _ (by omega) (by omega))) ?_
                  refine WL.op rfl rfl rfl (Go.Proofs.Ytobibplilbchfaa.W.quiet_assign rfl rfl) ?_
                  refine WL.end ?_
                  refine Xw.any (fun a k => ?_)
                  refine ⟨j + 1, by omega, by omega, v, (by (repeat (refine Kn.cons k rfl ?_)); exact k.base), ff, bx1, bxf, hz, ?_⟩
                  rw [uses_no hj2 (by simpa using h6)]
                  exact hV
              · skip
                have hje : j = i.args.length := by have := of_decide_eq_false hbj; omega
                subst hje
                rw [List.take_length] at hV
                refine WL.op rfl rfl rfl (Go.Proofs.Ytobibplilbchfaa.W.quiet_pick rfl rfl rfl) ?_
                refine WL.nil ?_
                refine TW.cond rfl (fun hb => by cases hb) (fun _ => ?_)
                refine TW.exit ?_
                refine Xw.thn (by simp) ?_
                refine Xw.thn (by simp) ?_
                refine Xw.hit ?_
                refine Xw.nrm ?_
                refine TW.sreg ?_
                refine WL.op rfl rfl rfl (Go.Proofs.Ytobibplilbchfaa.W.quiet_move rfl rfl) ?_
                refine WL.op rfl rfl rfl (Go.Proofs.Ytobibplilbchfaa.W.quiet_assign rfl rfl) ?_
                refine WL.nil ?_
                refine TW.rt ?_
                refine bodyw_ret rfl rfl ?_
                have hu : usesF i = (([] ++ [i.x3]) : List Int) ++ i.args.filter (fun x => !isNo x) := by rw [usesF_eq, if_neg hc1, if_pos hc2, if_pos hr1]
                exact ⟨_, rfl, by rw [hu]; exact Row.base hV (fun k hk => by have := (Row.lt hV k hk).1; omega), ff⟩
          · skip
            have hc2 : ¬(hB i.x0 = true ∧ i.x3 ≠ -1) := fun q => q.2 (by simpa using h4)
            cases hr1 : hR i.x0
            · skip
              refine WL.op rfl rfl rfl (Go.Proofs.Ytobibplilbchfaa.W.quiet_pick rfl rfl rfl) ?_
              refine WL.nil ?_
              refine TW.cond rfl (fun hb => by cases hb) (fun _ => ?_)
              refine TW.skip ?_
              refine TW.seq ?_
              refine TW.sreg ?_
              refine WL.op rfl rfl rfl (Go.Proofs.Ytobibplilbchfaa.W.quiet_assign rfl rfl) ?_
              refine WL.nil ?_
              refine TW.block ?_
              refine O.loopG (n := 0) (fun a _ => (intOf (a.tmps.getD 5 undef)).toNat) (fun j a W => ∃ (v : Value), Kn Try.f50.ntmps [(1, .pointer (some ⟨w.heap.size, 0, none⟩)), (3, v), (4, .slice (some ⟨gf, 0, none⟩) 10 10), (5, .int .i64 (j : Int))] a ∧ Fr (fun _ => False) w W ∧ Bx W w.heap.size #[.int .i64 i.x0, .int .i64 i.x1, .int .i64 i.x2, .int .i64 i.x3, .int .i64 i.x4, .int .i64 i.x5, .int .i64 i.x6, .int .i64 i.x7, .int .u32 i.u, .slice p.1 i.args.length p.2, .bool i.lg] 69 ∧ Bx W gf #[.bool (hD i.x0), .bool (hA i.x0), .bool (hB i.x0), .bool b3, .bool b4, .bool b5, .bool b6, .bool b7, .bool (hR i.x0), .bool b9] 4 ∧ Z ≤ W.heap.size ∧ Ints Z W v ((([] ++ []) : List Int) ++ (([] : List Int)).filter fun x => !isNo x)) (fun j a W h => by obtain ⟨_, h⟩ := h; exact O.slotv h.1 rfl) 0 (Nat.zero_le _) (fun a k => ⟨(.slice none 0 0), (by (repeat (refine Kn.cons k rfl ?_)); exact k.base), ff, bx1, bxf, hz, by first | exact hV | (simpa using hV)⟩) ?_
              rintro j a wl hj ⟨v, k, ff, bx1, bxf, hz, hV⟩
              refine TW.app (s := [(1, .pointer (some ⟨w.heap.size, 0, none⟩)), (3, v), (4, .slice (some ⟨gf, 0, none⟩) 10 10), (5, .int .i64 (j : Int))]) ?_ k
              refine TW.seq ?_
              refine TW.sreg ?_
              refine WL.op rfl rfl rfl (Go.Proofs.Ytobibplilbchfaa.W.quiet_move rfl rfl) ?_
              refine O.len rfl rfl rfl rfl rfl (qn_s_bool _ _ _ _) ?_
              refine WL.op rfl rfl rfl (Go.Proofs.Ytobibplilbchfaa.W.quiet_bin rfl rfl rfl (fun W => qb_gtr_int W _ _ _ _)) ?_
              refine O.split (fun hb => ?_) (fun hb => by simp at hb)
              refine WL.op rfl rfl rfl (Go.Proofs.Ytobibplilbchfaa.W.quiet_move rfl rfl) ?_
              refine WL.op rfl rfl rfl (Go.Proofs.Ytobibplilbchfaa.W.quiet_move rfl rfl) ?_
              refine O.ixa rfl rfl rfl rfl rfl rfl (by exact qi_s_bool _ _ _ _ _ 8 (by decide)) ?_
              refine WL.ld rfl rfl rfl rfl rfl (ql_bool _ _ _ (bxf.cell (j := 8) rfl)) ?_
              refine O.split (fun hb => by rw [hr1] at hb; cases hb) (fun hb => ?_)
              refine WL.op rfl rfl rfl (Go.Proofs.Ytobibplilbchfaa.W.quiet_pick rfl rfl rfl) ?_
              refine WL.op rfl rfl rfl (Go.Proofs.Ytobibplilbchfaa.W.quiet_move rfl rfl) ?_
              refine WL.skip rfl rfl rfl ?_
              refine WL.skip rfl rfl rfl ?_
              refine WL.skip rfl rfl rfl ?_
              refine WL.skip rfl rfl rfl ?_
              refine WL.skip rfl rfl rfl ?_
              refine WL.op rfl rfl rfl (Go.Proofs.Ytobibplilbchfaa.W.quiet_pick rfl rfl rfl) ?_
              refine WL.nil ?_
              refine TW.cond rfl (fun hb => by cases hb) (fun _ => ?_)
              refine TW.exit ?_
              refine Xw.thn (by simp) ?_
              refine Xw.thn (by simp) ?_
              refine Xw.hit ?_
              refine Xw.nrm ?_
              refine TW.sreg ?_
              refine WL.op rfl rfl rfl (Go.Proofs.Ytobibplilbchfaa.W.quiet_move rfl rfl) ?_
              refine WL.op rfl rfl rfl (Go.Proofs.Ytobibplilbchfaa.W.quiet_assign rfl rfl) ?_
              refine WL.nil ?_
              refine TW.rt ?_
              refine bodyw_ret rfl rfl ?_
              have hu : usesF i = (([] ++ []) : List Int) ++ ([] : List Int).filter (fun x => !isNo x) := by rw [usesF_eq, if_neg hc1, if_neg hc2, if_neg (by rw [hr1]; decide)]
              exact ⟨_, rfl, by rw [hu]; exact Row.base hV (fun k hk => by have := (Row.lt hV k hk).1; omega), ff⟩
            · skip
              refine WL.op rfl rfl rfl (Go.Proofs.Ytobibplilbchfaa.W.quiet_pick rfl rfl rfl) ?_
              refine WL.nil ?_
              refine TW.cond rfl (fun hb => by cases hb) (fun _ => ?_)
              refine TW.skip ?_
              refine TW.seq ?_
              refine TW.sreg ?_
              refine WL.op rfl rfl rfl (Go.Proofs.Ytobibplilbchfaa.W.quiet_assign rfl rfl) ?_
              refine WL.nil ?_
              refine TW.block ?_
              refine O.loopG (n := i.args.length) (fun a _ => (intOf (a.tmps.getD 5 undef)).toNat) (fun j a W => ∃ (v : Value), Kn Try.f50.ntmps [(1, .pointer (some ⟨w.heap.size, 0, none⟩)), (3, v), (4, .slice (some ⟨gf, 0, none⟩) 10 10), (5, .int .i64 (j : Int))] a ∧ Fr (fun _ => False) w W ∧ Bx W w.heap.size #[.int .i64 i.x0, .int .i64 i.x1, .int .i64 i.x2, .int .i64 i.x3, .int .i64 i.x4, .int .i64 i.x5, .int .i64 i.x6, .int .i64 i.x7, .int .u32 i.u, .slice p.1 i.args.length p.2, .bool i.lg] 69 ∧ Bx W gf #[.bool (hD i.x0), .bool (hA i.x0), .bool (hB i.x0), .bool b3, .bool b4, .bool b5, .bool b6, .bool b7, .bool (hR i.x0), .bool b9] 4 ∧ Z ≤ W.heap.size ∧ Ints Z W v ((([] ++ []) : List Int) ++ (i.args.take j).filter fun x => !isNo x)) (fun j a W h => by obtain ⟨_, h⟩ := h; exact O.slotv h.1 rfl) 0 (Nat.zero_le _) (fun a k => ⟨(.slice none 0 0), (by (repeat (refine Kn.cons k rfl ?_)); exact k.base), ff, bx1, bxf, hz, by rw [List.take_zero]; first | exact hV | (simpa using hV)⟩) ?_
              rintro j a wl hj ⟨v, k, ff, bx1, bxf, hz, hV⟩
              have hA0 := hAr.fr ff
              refine TW.app (s := [(1, .pointer (some ⟨w.heap.size, 0, none⟩)), (3, v), (4, .slice (some ⟨gf, 0, none⟩) 10 10), (5, .int .i64 (j : Int))]) ?_ k
              refine TW.seq ?_
              refine TW.sreg ?_
              refine WL.op rfl rfl rfl (Go.Proofs.Ytobibplilbchfaa.W.quiet_move rfl rfl) ?_
              refine O.len rfl rfl rfl rfl rfl (qn_s_bool _ _ _ _) ?_
              refine WL.op rfl rfl rfl (Go.Proofs.Ytobibplilbchfaa.W.quiet_bin rfl rfl rfl (fun W => qb_gtr_int W _ _ _ _)) ?_
              refine O.split (fun hb => ?_) (fun hb => by simp at hb)
              refine WL.op rfl rfl rfl (Go.Proofs.Ytobibplilbchfaa.W.quiet_move rfl rfl) ?_
              refine WL.op rfl rfl rfl (Go.Proofs.Ytobibplilbchfaa.W.quiet_move rfl rfl) ?_
              refine O.ixa rfl rfl rfl rfl rfl rfl (by exact qi_s_bool _ _ _ _ _ 8 (by decide)) ?_
              refine WL.ld rfl rfl rfl rfl rfl (ql_bool _ _ _ (bxf.cell (j := 8) rfl)) ?_
              refine O.split (fun hb => ?_) (fun hb => by rw [hr1] at hb; cases hb)
              refine WL.op rfl rfl rfl (Go.Proofs.Ytobibplilbchfaa.W.quiet_pick rfl rfl rfl) ?_
              refine WL.op rfl rfl rfl (Go.Proofs.Ytobibplilbchfaa.W.quiet_move rfl rfl) ?_
              refine WL.op rfl rfl rfl (Go.Proofs.Ytobibplilbchfaa.W.quiet_move rfl rfl) ?_
              refine WL.op rfl rfl rfl (Go.Proofs.Ytobibplilbchfaa.W.quiet_field rfl rfl (fun W => (qa_api_Ins_9 W _ _))) ?_
              refine WL.ld rfl rfl rfl rfl rfl (ql_s_int _ _ _ _ _ (bx1.cell (j := 9) rfl)) ?_
              refine O.len rfl rfl rfl rfl rfl (qn_s_int _ _ _ _) ?_
              refine WL.op rfl rfl rfl (Go.Proofs.Ytobibplilbchfaa.W.quiet_bin rfl rfl rfl (fun W => qb_lss_int W _ _ _ _)) ?_
              refine O.split (fun hbj => ?_) (fun hbj => ?_)
              · skip
                have hj2 : j < i.args.length := by have := of_decide_eq_true hbj; omega
                obtain ⟨ga, oa, hpa, hca⟩ := hA0 j hj2
                refine WL.op rfl rfl rfl (Go.Proofs.Ytobibplilbchfaa.W.quiet_pick rfl rfl rfl) ?_
                refine WL.nil ?_
                refine TW.cond rfl (fun _ => ?_) (fun hb => by cases hb)
                refine TW.skip ?_
                refine TW.seq ?_
                refine TW.block ?_
                refine TW.sreg ?_
                refine WL.op rfl rfl rfl (Go.Proofs.Ytobibplilbchfaa.W.quiet_field rfl rfl (fun W => (qa_api_Ins_9 W _ _))) ?_
                refine WL.ld rfl rfl rfl rfl rfl (ql_s_int _ _ _ _ _ (bx1.cell (j := 9) rfl)) ?_
                refine WL.op rfl rfl rfl (Go.Proofs.Ytobibplilbchfaa.W.quiet_move rfl rfl) ?_
                refine O.ixa rfl rfl rfl rfl rfl rfl (by rw [hpa]; exact qi_s_int _ _ _ _ _ _ (by omega)) ?_
                refine WL.ld rfl rfl rfl rfl rfl (ql_int _ _ _ hca) ?_
                refine WL.op rfl rfl rfl (Go.Proofs.Ytobibplilbchfaa.W.quiet_bin rfl rfl rfl (fun W => qb_neq_int W _ _ _ _)) ?_
                refine O.split (fun h6 => ?_) (fun h6 => ?_)
                · skip
                  refine WL.nil ?_
                  refine TW.cond rfl (fun _ => ?_) (fun hb => by cases hb)
                  refine TW.reg ?_
                  refine WL.op rfl rfl rfl (Go.Proofs.Ytobibplilbchfaa.W.quiet_move rfl rfl) ?_
                  refine WL.op rfl rfl rfl (Go.Proofs.Ytobibplilbchfaa.W.quiet_field rfl rfl (fun W => (qa_api_Ins_9 W _ _))) ?_
                  refine WL.ld rfl rfl rfl rfl rfl (ql_s_int _ _ _ _ _ (bx1.cell (j := 9) rfl)) ?_
                  refine WL.op rfl rfl rfl (Go.Proofs.Ytobibplilbchfaa.W.quiet_move rfl rfl) ?_
                  refine O.ixa rfl rfl rfl rfl rfl rfl (by rw [hpa]; exact qi_s_int _ _ _ _ _ _ (by omega)) ?_
                  refine WL.ld rfl rfl rfl rfl rfl (ql_int _ _ _ hca) ?_
                  refine O.bsl rfl rfl rfl rfl rfl (qv_s_int_1 _ _) ?_
                  refine WL.append rfl rfl rfl rfl rfl rfl (Ints.app (i.args.getD j 0) _ hV hz (by have := uses_len i j; simp; omega)) ?_
                  rintro v7 wB7 ⟨hV7, hF7, _⟩
                  replace bx1 := bx1.fr hF7 (fun e => by have := (Row.lt hV _ e).1; omega)
                  replace bxf := bxf.fr hF7 (fun e => by have := (Row.lt hV _ e).1; omega)
                  replace ff := ff.trans' hF7 (fun q hq e => by have := (Row.lt hV q e).1; omega)
                  replace hz := Nat.le_trans hz hF7.size
                  -- world wB7
                  refine WL.op rfl rfl rfl (Go.Proofs.Ytobibplilbchfaa.W.quiet_assign rfl rfl) ?_
                  refine WL.end ?_
                  refine Xw.nblk ?_
                  refine Xw.nrm ?_
                  refine TW.reg ?_
                  refine WL.op rfl rfl rfl (Go.Proofs.Ytobibplilbchfaa.W.quiet_move rfl rfl) ?_
                  refine WL.op rfl rfl rfl (Go.Proofs.Ytobibplilbchfaa.W.quiet_bin rfl rfl rfl (fun W => qb_add_int W _ _ _ _ (by omega) (by omega))) ?_
                  refine WL.op rfl rfl rfl (Go.Proofs.Ytobibplilbchfaa.W.quiet_assign rfl rfl) ?_
                  refine WL.end ?_
                  refine Xw.any (fun a k => ?_)
                  refine ⟨j + 1, by omega, by omega, v7, (by (repeat (refine Kn.cons k rfl ?_)); exact k.base), ff, bx1, bxf, hz, ?_⟩
                  rw [uses_yes hj2 (by simpa using h6), ← List.append_assoc]
                  exact hV7
                · skip
                  refine WL.nil ?_
                  refine TW.cond rfl (fun hb => by cases hb) (fun _ => ?_)
                  refine TW.skipx ?_
                  refine Xw.nblk ?_
                  refine Xw.nrm ?_
                  refine TW.reg ?_
                  refine WL.op rfl rfl rfl (Go.Proofs.Ytobibplilbchfaa.W.quiet_move rfl rfl) ?_
                  refine WL.op rfl rfl rfl (Go.Proofs.Ytobibplilbchfaa.W.quiet_bin rfl rfl rfl (fun W => qb_add_int W _ _ _ _ (by omega) (by omega))) ?_
                  refine WL.op rfl rfl rfl (Go.Proofs.Ytobibplilbchfaa.W.quiet_assign rfl rfl) ?_
                  refine WL.end ?_
                  refine Xw.any (fun a k => ?_)
                  refine ⟨j + 1, by omega, by omega, v, (by (repeat (refine Kn.cons k rfl ?_)); exact k.base), ff, bx1, bxf, hz, ?_⟩
                  rw [uses_no hj2 (by simpa using h6)]
                  exact hV
              · skip
                have hje : j = i.args.length := by have := of_decide_eq_false hbj; omega
                subst hje
                rw [List.take_length] at hV
                refine WL.op rfl rfl rfl (Go.Proofs.Ytobibplilbchfaa.W.quiet_pick rfl rfl rfl) ?_
                refine WL.nil ?_
                refine TW.cond rfl (fun hb => by cases hb) (fun _ => ?_)
                refine TW.exit ?_
                refine Xw.thn (by simp) ?_
                refine Xw.thn (by simp) ?_
                refine Xw.hit ?_
                refine Xw.nrm ?_
                refine TW.sreg ?_
                refine WL.op rfl rfl rfl (Go.Proofs.Ytobibplilbchfaa.W.quiet_move rfl rfl) ?_
                refine WL.op rfl rfl rfl (Go.Proofs.Ytobibplilbchfaa.W.quiet_assign rfl rfl) ?_
                refine WL.nil ?_
                refine TW.rt ?_
                refine bodyw_ret rfl rfl ?_
                have hu : usesF i = (([] ++ []) : List Int) ++ i.args.filter (fun x => !isNo x) := by rw [usesF_eq, if_neg hc1, if_neg hc2, if_pos hr1]
                exact ⟨_, rfl, by rw [hu]; exact Row.base hV (fun k hk => by have := (Row.lt hV k hk).1; omega), ff⟩
        · skip
          have hc2 : ¬(hB i.x0 = true ∧ i.x3 ≠ -1) := fun q => by rw [q.1] at h3; cases h3
          cases hr1 : hR i.x0
          · skip
            refine WL.op rfl rfl rfl (Go.Proofs.Ytobibplilbchfaa.W.quiet_pick rfl rfl rfl) ?_
            refine WL.op rfl rfl rfl (Go.Proofs.Ytobibplilbchfaa.W.quiet_move rfl rfl) ?_
            refine WL.skip rfl rfl rfl ?_
            refine WL.skip rfl rfl rfl ?_
            refine WL.skip rfl rfl rfl ?_
            refine WL.op rfl rfl rfl (Go.Proofs.Ytobibplilbchfaa.W.quiet_pick rfl rfl rfl) ?_
            refine WL.nil ?_
            refine TW.cond rfl (fun hb => by cases hb) (fun _ => ?_)
            refine TW.skip ?_
            refine TW.seq ?_
            refine TW.sreg ?_
            refine WL.op rfl rfl rfl (Go.Proofs.Ytobibplilbchfaa.W.quiet_assign rfl rfl) ?_
            refine WL.nil ?_
            refine TW.block ?_
            refine O.loopG (n := 0) (fun a _ => (intOf (a.tmps.getD 5 undef)).toNat) (fun j a W => ∃ (v : Value), Kn Try.f50.ntmps [(1, .pointer (some ⟨w.heap.size, 0, none⟩)), (3, v), (4, .slice (some ⟨gf, 0, none⟩) 10 10), (5, .int .i64 (j : Int))] a ∧ Fr (fun _ => False) w W ∧ Bx W w.heap.size #[.int .i64 i.x0, .int .i64 i.x1, .int .i64 i.x2, .int .i64 i.x3, .int .i64 i.x4, .int .i64 i.x5, .int .i64 i.x6, .int .i64 i.x7, .int .u32 i.u, .slice p.1 i.args.length p.2, .bool i.lg] 69 ∧ Bx W gf #[.bool (hD i.x0), .bool (hA i.x0), .bool (hB i.x0), .bool b3, .bool b4, .bool b5, .bool b6, .bool b7, .bool (hR i.x0), .bool b9] 4 ∧ Z ≤ W.heap.size ∧ Ints Z W v ((([] ++ []) : List Int) ++ (([] : List Int)).filter fun x => !isNo x)) (fun j a W h => by obtain ⟨_, h⟩ := h; exact O.slotv h.1 rfl) 0 (Nat.zero_le _) (fun a k => ⟨(.slice none 0 0), (by (repeat (refine Kn.cons k rfl ?_)); exact k.base), ff, bx1, bxf, hz, by first | exact hV | (simpa using hV)⟩) ?_
            rintro j a wl hj ⟨v, k, ff, bx1, bxf, hz, hV⟩
            refine TW.app (s := [(1, .pointer (some ⟨w.heap.size, 0, none⟩)), (3, v), (4, .slice (some ⟨gf, 0, none⟩) 10 10), (5, .int .i64 (j : Int))]) ?_ k
            refine TW.seq ?_
            refine TW.sreg ?_
            refine WL.op rfl rfl rfl (Go.Proofs.Ytobibplilbchfaa.W.quiet_move rfl rfl) ?_
            refine O.len rfl rfl rfl rfl rfl (qn_s_bool _ _ _ _) ?_
            refine WL.op rfl rfl rfl (Go.Proofs.Ytobibplilbchfaa.W.quiet_bin rfl rfl rfl (fun W => qb_gtr_int W _ _ _ _)) ?_
            refine O.split (fun hb => ?_) (fun hb => by simp at hb)
            refine WL.op rfl rfl rfl (Go.Proofs.Ytobibplilbchfaa.W.quiet_move rfl rfl) ?_
            refine WL.op rfl rfl rfl (Go.Proofs.Ytobibplilbchfaa.W.quiet_move rfl rfl) ?_
            refine O.ixa rfl rfl rfl rfl rfl rfl (by exact qi_s_bool _ _ _ _ _ 8 (by decide)) ?_
            refine WL.ld rfl rfl rfl rfl rfl (ql_bool _ _ _ (bxf.cell (j := 8) rfl)) ?_
            refine O.split (fun hb => by rw [hr1] at hb; cases hb) (fun hb => ?_)
            refine WL.op rfl rfl rfl (Go.Proofs.Ytobibplilbchfaa.W.quiet_pick rfl rfl rfl) ?_
            refine WL.op rfl rfl rfl (Go.Proofs.Ytobibplilbchfaa.W.quiet_move rfl rfl) ?_
            refine WL.skip rfl rfl rfl ?_
            refine WL.skip rfl rfl rfl ?_
            refine WL.skip rfl rfl rfl ?_
            refine WL.skip rfl rfl rfl ?_
            refine WL.skip rfl rfl rfl ?_
            refine WL.op rfl rfl rfl (Go.Proofs.Ytobibplilbchfaa.W.quiet_pick rfl rfl rfl) ?_
            refine WL.nil ?_
            refine TW.cond rfl (fun hb => by cases hb) (fun _ => ?_)
            refine TW.exit ?_
            refine Xw.thn (by simp) ?_
            refine Xw.thn (by simp) ?_
            refine Xw.hit ?_
            refine Xw.nrm ?_
            refine TW.sreg ?_
            refine WL.op rfl rfl rfl (Go.Proofs.Ytobibplilbchfaa.W.quiet_move rfl rfl) ?_
            refine WL.op rfl rfl rfl (Go.Proofs.Ytobibplilbchfaa.W.quiet_assign rfl rfl) ?_
            refine WL.nil ?_
            refine TW.rt ?_
            refine bodyw_ret rfl rfl ?_
            have hu : usesF i = (([] ++ []) : List Int) ++ ([] : List Int).filter (fun x => !isNo x) := by rw [usesF_eq, if_neg hc1, if_neg hc2, if_neg (by rw [hr1]; decide)]
            exact ⟨_, rfl, by rw [hu]; exact Row.base hV (fun k hk => by have := (Row.lt hV k hk).1; omega), ff⟩
          · skip
            refine WL.op rfl rfl rfl (Go.Proofs.Ytobibplilbchfaa.W.quiet_pick rfl rfl rfl) ?_
            refine WL.op rfl rfl rfl (Go.Proofs.Ytobibplilbchfaa.W.quiet_move rfl rfl) ?_
            refine WL.skip rfl rfl rfl ?_
            refine WL.skip rfl rfl rfl ?_
            refine WL.skip rfl rfl rfl ?_
            refine WL.op rfl rfl rfl (Go.Proofs.Ytobibplilbchfaa.W.quiet_pick rfl rfl rfl) ?_
            refine WL.nil ?_
            refine TW.cond rfl (fun hb => by cases hb) (fun _ => ?_)
            refine TW.skip ?_
            refine TW.seq ?_
            refine TW.sreg ?_
            refine WL.op rfl rfl rfl (Go.Proofs.Ytobibplilbchfaa.W.quiet_assign rfl rfl) ?_
            refine WL.nil ?_
            refine TW.block ?_
            refine O.loopG (n := i.args.length) (fun a _ => (intOf (a.tmps.getD 5 undef)).toNat) (fun j a W => ∃ (v : Value), Kn Try.f50.ntmps [(1, .pointer (some ⟨w.heap.size, 0, none⟩)), (3, v), (4, .slice (some ⟨gf, 0, none⟩) 10 10), (5, .int .i64 (j : Int))] a ∧ Fr (fun _ => False) w W ∧ Bx W w.heap.size #[.int .i64 i.x0, .int .i64 i.x1, .int .i64 i.x2, .int .i64 i.x3, .int .i64 i.x4, .int .i64 i.x5, .int .i64 i.x6, .int .i64 i.x7, .int .u32 i.u, .slice p.1 i.args.length p.2, .bool i.lg] 69 ∧ Bx W gf #[.bool (hD i.x0), .bool (hA i.x0), .bool (hB i.x0), .bool b3, .bool b4, .bool b5, .bool b6, .bool b7, .bool (hR i.x0), .bool b9] 4 ∧ Z ≤ W.heap.size ∧ Ints Z W v ((([] ++ []) : List Int) ++ (i.args.take j).filter fun x => !isNo x)) (fun j a W h => by obtain ⟨_, h⟩ := h; exact O.slotv h.1 rfl) 0 (Nat.zero_le _) (fun a k => ⟨(.slice none 0 0), (by (repeat (refine Kn.cons k rfl ?_)); exact k.base), ff, bx1, bxf, hz, by rw [List.take_zero]; first | exact hV | (simpa using hV)⟩) ?_
            rintro j a wl hj ⟨v, k, ff, bx1, bxf, hz, hV⟩
            have hA0 := hAr.fr ff
            refine TW.app (s := [(1, .pointer (some ⟨w.heap.size, 0, none⟩)), (3, v), (4, .slice (some ⟨gf, 0, none⟩) 10 10), (5, .int .i64 (j : Int))]) ?_ k
            refine TW.seq ?_
            refine TW.sreg ?_
            refine WL.op rfl rfl rfl (Go.Proofs.Ytobibplilbchfaa.W.quiet_move rfl rfl) ?_
            refine O.len rfl rfl rfl rfl rfl (qn_s_bool _ _ _ _) ?_
            refine WL.op rfl rfl rfl (Go.Proofs.Ytobibplilbchfaa.W.quiet_bin rfl rfl rfl (fun W => qb_gtr_int W _ _ _ _)) ?_
            refine O.split (fun hb => ?_) (fun hb => by simp at hb)
            refine WL.op rfl rfl rfl (Go.Proofs.Ytobibplilbchfaa.W.quiet_move rfl rfl) ?_
            refine WL.op rfl rfl rfl (Go.Proofs.Ytobibplilbchfaa.W.quiet_move rfl rfl) ?_
            refine O.ixa rfl rfl rfl rfl rfl rfl (by exact qi_s_bool _ _ _ _ _ 8 (by decide)) ?_
            refine WL.ld rfl rfl rfl rfl rfl (ql_bool _ _ _ (bxf.cell (j := 8) rfl)) ?_
            refine O.split (fun hb => ?_) (fun hb => by rw [hr1] at hb; cases hb)
            refine WL.op rfl rfl rfl (Go.Proofs.Ytobibplilbchfaa.W.quiet_pick rfl rfl rfl) ?_
            refine WL.op rfl rfl rfl (Go.Proofs.Ytobibplilbchfaa.W.quiet_move rfl rfl) ?_
            refine WL.op rfl rfl rfl (Go.Proofs.Ytobibplilbchfaa.W.quiet_move rfl rfl) ?_
            refine WL.op rfl rfl rfl (Go.Proofs.Ytobibplilbchfaa.W.quiet_field rfl rfl (fun W => (qa_api_Ins_9 W _ _))) ?_
            refine WL.ld rfl rfl rfl rfl rfl (ql_s_int _ _ _ _ _ (bx1.cell (j := 9) rfl)) ?_
            refine O.len rfl rfl rfl rfl rfl (qn_s_int _ _ _ _) ?_
            refine WL.op rfl rfl rfl (Go.Proofs.Ytobibplilbchfaa.W.quiet_bin rfl rfl rfl (fun W => qb_lss_int W _ _ _ _)) ?_
            refine O.split (fun hbj => ?_) (fun hbj => ?_)
            · skip
              have hj2 : j < i.args.length := by have := of_decide_eq_true hbj; omega
              obtain ⟨ga, oa, hpa, hca⟩ := hA0 j hj2
              refine WL.op rfl rfl rfl (Go.Proofs.Ytobibplilbchfaa.W.quiet_pick rfl rfl rfl) ?_
              refine WL.nil ?_
              refine TW.cond rfl (fun _ => ?_) (fun hb => by cases hb)
              refine TW.skip ?_
              refine TW.seq ?_
              refine TW.block ?_
              refine TW.sreg ?_
              refine WL.op rfl rfl rfl (Go.Proofs.Ytobibplilbchfaa.W.quiet_field rfl rfl (fun W => (qa_api_Ins_9 W _ _))) ?_
              refine WL.ld rfl rfl rfl rfl rfl (ql_s_int _ _ _ _ _ (bx1.cell (j := 9) rfl)) ?_
              refine WL.op rfl rfl rfl (Go.Proofs.Ytobibplilbchfaa.W.quiet_move rfl rfl) ?_
              refine O.ixa rfl rfl rfl rfl rfl rfl (by rw [hpa]; exact qi_s_int _ _ _ _ _ _ (by omega)) ?_
              refine WL.ld rfl rfl rfl rfl rfl (ql_int _ _ _ hca) ?_
              refine WL.op rfl rfl rfl (Go.Proofs.Ytobibplilbchfaa.W.quiet_bin rfl rfl rfl (fun W => qb_neq_int W _ _ _ _)) ?_
              refine O.split (fun h6 => ?_) (fun h6 => ?_)
              · skip
                refine WL.nil ?_
                refine TW.cond rfl (fun _ => ?_) (fun hb => by cases hb)
                refine TW.reg ?_
                refine WL.op rfl rfl rfl (Go.Proofs.Ytobibplilbchfaa.W.quiet_move rfl rfl) ?_
                refine WL.op rfl rfl rfl (Go.Proofs.Ytobibplilbchfaa.W.quiet_field rfl rfl (fun W => (qa_api_Ins_9 W _ _))) ?_
                refine WL.ld rfl rfl rfl rfl rfl (ql_s_int _ _ _ _ _ (bx1.cell (j := 9) rfl)) ?_
                refine WL.op rfl rfl rfl (Go.Proofs.Ytobibplilbchfaa.W.quiet_move rfl rfl) ?_
                refine O.ixa rfl rfl rfl rfl rfl rfl (by rw [hpa]; exact qi_s_int _ _ _ _ _ _ (by omega)) ?_
                refine WL.ld rfl rfl rfl rfl rfl (ql_int _ _ _ hca) ?_
                refine O.bsl rfl rfl rfl rfl rfl (qv_s_int_1 _ _) ?_
                refine WL.append rfl rfl rfl rfl rfl rfl (Ints.app (i.args.getD j 0) _ hV hz (by have := uses_len i j; simp; omega)) ?_
                rintro v7 wB7 ⟨hV7, hF7, _⟩
                replace bx1 := bx1.fr hF7 (fun e => by have := (Row.lt hV _ e).1; omega)
                replace bxf := bxf.fr hF7 (fun e => by have := (Row.lt hV _ e).1; omega)
                replace ff := ff.trans' hF7 (fun q hq e => by have := (Row.lt hV q e).1; omega)
                replace hz := Nat.le_trans hz hF7.size
                -- world wB7
                refine WL.op rfl rfl rfl (Go.Proofs.Ytobibplilbchfaa.W.quiet_assign rfl rfl) ?_
                refine WL.end ?_
                refine Xw.nblk ?_
                refine Xw.nrm ?_
                refine TW.reg ?_
                refine WL.op rfl rfl rfl (Go.Proofs.Ytobibplilbchfaa.W.quiet_move rfl rfl) ?_
                refine WL.op rfl rfl rfl (Go.Proofs.Ytobibplilbchfaa.W.quiet_bin rfl rfl rfl (fun W => qb_add_int W _ _ _ _ (by omega) (by omega))) ?_
                refine WL.op rfl rfl rfl (Go.Proofs.Ytobibplilbchfaa.W.quiet_assign rfl rfl) ?_
                refine WL.end ?_
                refine Xw.any (fun a k => ?_)
                refine ⟨j + 1, by omega, by omega, v7, (by (repeat (refine Kn.cons k rfl ?_)); exact k.base), ff, bx1, bxf, hz, ?_⟩
                rw [uses_yes hj2 (by simpa using h6), ← List.append_assoc]
                exact hV7
              · skip
                refine WL.nil ?_
                refine TW.cond rfl (fun hb => by cases hb) (fun _ => ?_)
                refine TW.skipx ?_
                refine Xw.nblk ?_
                refine Xw.nrm ?_
                refine TW.reg ?_
                refine WL.op rfl rfl rfl (Go.Proofs.Ytobibplilbchfaa.W.quiet_move rfl rfl) ?_
                refine WL.op rfl rfl rfl (Go.Proofs.Ytobibplilbchfaa.W.quiet_bin rfl rfl rfl (fun W => qb_add_int W _ _ _ _ (by omega) (by omega))) ?_
                refine WL.op rfl rfl rfl (Go.Proofs.Ytobibplilbchfaa.W.quiet_assign rfl rfl) ?_
                refine WL.end ?_
                refine Xw.any (fun a k => ?_)
                refine ⟨j + 1, by omega, by omega, v, (by (repeat (refine Kn.cons k rfl ?_)); exact k.base), ff, bx1, bxf, hz, ?_⟩
                rw [uses_no hj2 (by simpa using h6)]
                exact hV
            · skip
              have hje : j = i.args.length := by have := of_decide_eq_false hbj; omega
              subst hje
              rw [List.take_length] at hV
              refine WL.op rfl rfl rfl (Go.Proofs.Ytobibplilbchfaa.W.quiet_pick rfl rfl rfl) ?_
              refine WL.nil ?_
              refine TW.cond rfl (fun hb => by cases hb) (fun _ => ?_)
              refine TW.exit ?_
              refine Xw.thn (by simp) ?_
              refine Xw.thn (by simp) ?_
              refine Xw.hit ?_
              refine Xw.nrm ?_
              refine TW.sreg ?_
              refine WL.op rfl rfl rfl (Go.Proofs.Ytobibplilbchfaa.W.quiet_move rfl rfl) ?_
              refine WL.op rfl rfl rfl (Go.Proofs.Ytobibplilbchfaa.W.quiet_assign rfl rfl) ?_
              refine WL.nil ?_
              refine TW.rt ?_
              refine bodyw_ret rfl rfl ?_
              have hu : usesF i = (([] ++ []) : List Int) ++ i.args.filter (fun x => !isNo x) := by rw [usesF_eq, if_neg hc1, if_neg hc2, if_pos hr1]
              exact ⟨_, rfl, by rw [hu]; exact Row.base hV (fun k hk => by have := (Row.lt hV k hk).1; omega), ff⟩
    · skip
      have hc1 : ¬(hA i.x0 = true ∧ i.x2 ≠ -1) := fun q => by rw [q.1] at h1; cases h1
      refine WL.op rfl rfl rfl (Go.Proofs.Ytobibplilbchfaa.W.quiet_pick rfl rfl rfl) ?_
      refine WL.op rfl rfl rfl (Go.Proofs.Ytobibplilbchfaa.W.quiet_move rfl rfl) ?_
      refine WL.skip rfl rfl rfl ?_
      refine WL.skip rfl rfl rfl ?_
      refine WL.skip rfl rfl rfl ?_
      refine WL.op rfl rfl rfl (Go.Proofs.Ytobibplilbchfaa.W.quiet_pick rfl rfl rfl) ?_
      refine WL.nil ?_
      refine TW.cond rfl (fun hb => by cases hb) (fun _ => ?_)
      refine TW.skip ?_
      refine TW.seq ?_
      refine TW.sreg ?_
      refine WL.op rfl rfl rfl (Go.Proofs.Ytobibplilbchfaa.W.quiet_move rfl rfl) ?_
      refine O.len rfl rfl rfl rfl rfl (qn_s_bool _ _ _ _) ?_
      refine WL.op rfl rfl rfl (Go.Proofs.Ytobibplilbchfaa.W.quiet_bin rfl rfl rfl (fun W => qb_gtr_int W _ _ _ _)) ?_
      refine O.split (fun hb => ?_) (fun hb => by simp at hb)
      refine WL.op rfl rfl rfl (Go.Proofs.Ytobibplilbchfaa.W.quiet_move rfl rfl) ?_
      refine WL.op rfl rfl rfl (Go.Proofs.Ytobibplilbchfaa.W.quiet_move rfl rfl) ?_
      refine O.ixa rfl rfl rfl rfl rfl rfl (by exact qi_s_bool _ _ _ _ _ 2 (by decide)) ?_
      refine WL.ld rfl rfl rfl rfl rfl (ql_bool _ _ _ (bxf.cell (j := 2) rfl)) ?_
      refine O.split (fun h3 => ?_) (fun h3 => ?_)
      · skip
        refine WL.op rfl rfl rfl (Go.Proofs.Ytobibplilbchfaa.W.quiet_pick rfl rfl rfl) ?_
        refine WL.op rfl rfl rfl (Go.Proofs.Ytobibplilbchfaa.W.quiet_move rfl rfl) ?_
        refine WL.op rfl rfl rfl (Go.Proofs.Ytobibplilbchfaa.W.quiet_field rfl rfl (fun W => (qa_api_Ins_3 W _ _))) ?_
        refine WL.ld rfl rfl rfl rfl rfl (ql_int _ _ _ (bx1.cell (j := 3) rfl)) ?_
        refine WL.op rfl rfl rfl (Go.Proofs.Ytobibplilbchfaa.W.quiet_bin rfl rfl rfl (fun W => qb_neq_int W _ _ _ _)) ?_
        refine O.split (fun h4 => ?_) (fun h4 => ?_)
        · skip
          have hc2 : hB i.x0 = true ∧ i.x3 ≠ -1 := ⟨h3, by simpa using h4⟩
          refine WL.op rfl rfl rfl (Go.Proofs.Ytobibplilbchfaa.W.quiet_pick rfl rfl rfl) ?_
          refine WL.nil ?_
          refine TW.cond rfl (fun _ => ?_) (fun hb => by cases hb)
          refine TW.reg ?_
          refine WL.op rfl rfl rfl (Go.Proofs.Ytobibplilbchfaa.W.quiet_move rfl rfl) ?_
          refine WL.op rfl rfl rfl (Go.Proofs.Ytobibplilbchfaa.W.quiet_field rfl rfl (fun W => (qa_api_Ins_3 W _ _))) ?_
          refine WL.ld rfl rfl rfl rfl rfl (ql_int _ _ _ (bx1.cell (j := 3) rfl)) ?_
          refine O.bsl rfl rfl rfl rfl rfl (qv_s_int_1 _ _) ?_
          refine WL.append rfl rfl rfl rfl rfl rfl (Ints.app i.x3 _ hV hz (by simp)) ?_
          rintro v2 wB2 ⟨hV2, hF2, _⟩
          replace bx1 := bx1.fr hF2 (fun e => by have := (Row.lt hV _ e).1; omega)
          replace bxf := bxf.fr hF2 (fun e => by have := (Row.lt hV _ e).1; omega)
          replace ff := ff.trans' hF2 (fun q hq e => by have := (Row.lt hV q e).1; omega)
          replace hA0 := hAr.fr ff
          replace hV := hV2
          replace hz := Nat.le_trans hz hF2.size
          -- world wB2
          cases hr1 : hR i.x0
          · skip
            refine WL.op rfl rfl rfl (Go.Proofs.Ytobibplilbchfaa.W.quiet_assign rfl rfl) ?_
            refine WL.nil ?_
            refine TW.seq ?_
            refine TW.sreg ?_
            refine WL.op rfl rfl rfl (Go.Proofs.Ytobibplilbchfaa.W.quiet_assign rfl rfl) ?_
            refine WL.nil ?_
            refine TW.block ?_
            refine O.loopG (n := 0) (fun a _ => (intOf (a.tmps.getD 5 undef)).toNat) (fun j a W => ∃ (v : Value), Kn Try.f50.ntmps [(1, .pointer (some ⟨w.heap.size, 0, none⟩)), (3, v), (4, .slice (some ⟨gf, 0, none⟩) 10 10), (5, .int .i64 (j : Int))] a ∧ Fr (fun _ => False) w W ∧ Bx W w.heap.size #[.int .i64 i.x0, .int .i64 i.x1, .int .i64 i.x2, .int .i64 i.x3, .int .i64 i.x4, .int .i64 i.x5, .int .i64 i.x6, .int .i64 i.x7, .int .u32 i.u, .slice p.1 i.args.length p.2, .bool i.lg] 69 ∧ Bx W gf #[.bool (hD i.x0), .bool (hA i.x0), .bool (hB i.x0), .bool b3, .bool b4, .bool b5, .bool b6, .bool b7, .bool (hR i.x0), .bool b9] 4 ∧ Z ≤ W.heap.size ∧ Ints Z W v ((([] ++ [i.x3]) : List Int) ++ (([] : List Int)).filter fun x => !isNo x)) (fun j a W h => by obtain ⟨_, h⟩ := h; exact O.slotv h.1 rfl) 0 (Nat.zero_le _) (fun a k => ⟨v2, (by (repeat (refine Kn.cons k rfl ?_)); exact k.base), ff, bx1, bxf, hz, by first | exact hV | (simpa using hV)⟩) ?_
            rintro j a wl hj ⟨v, k, ff, bx1, bxf, hz, hV⟩
            refine TW.app (s := [(1, .pointer (some ⟨w.heap.size, 0, none⟩)), (3, v), (4, .slice (some ⟨gf, 0, none⟩) 10 10), (5, .int .i64 (j : Int))]) ?_ k
            refine TW.seq ?_
            refine TW.sreg ?_
            refine WL.op rfl rfl rfl (Go.Proofs.Ytobibplilbchfaa.W.quiet_move rfl rfl) ?_
            refine O.len rfl rfl rfl rfl rfl (qn_s_bool _ _ _ _) ?_
            refine WL.op rfl rfl rfl (Go.Proofs.Ytobibplilbchfaa.W.quiet_bin rfl rfl rfl (fun W => qb_gtr_int W _ _ _ _)) ?_
            refine O.split (fun hb => ?_) (fun hb => by simp at hb)
            refine WL.op rfl rfl rfl (Go.Proofs.Ytobibplilbchfaa.W.quiet_move rfl rfl) ?_
            refine WL.op rfl rfl rfl (Go.Proofs.Ytobibplilbchfaa.W.quiet_move rfl rfl) ?_
            refine O.ixa rfl rfl rfl rfl rfl rfl (by exact qi_s_bool _ _ _ _ _ 8 (by decide)) ?_
            refine WL.ld rfl rfl rfl rfl rfl (ql_bool _ _ _ (bxf.cell (j := 8) rfl)) ?_
            refine O.split (fun hb => by rw [hr1] at hb; cases hb) (fun hb => ?_)
            refine WL.op rfl rfl rfl (Go.Proofs.Ytobibplilbchfaa.W.quiet_pick rfl rfl rfl) ?_
            refine WL.op rfl rfl rfl (Go.Proofs.Ytobibplilbchfaa.W.quiet_move rfl rfl) ?_
            refine WL.skip rfl rfl rfl ?_
            refine WL.skip rfl rfl rfl ?_
            refine WL.skip rfl rfl rfl ?_
            refine WL.skip rfl rfl rfl ?_
            refine WL.skip rfl rfl rfl ?_
            refine WL.op rfl rfl rfl (Go.Proofs.Ytobibplilbchfaa.W.quiet_pick rfl rfl rfl) ?_
            refine WL.nil ?_
            refine TW.cond rfl (fun hb => by cases hb) (fun _ => ?_)
            refine TW.exit ?_
            refine Xw.thn (by simp) ?_
            refine Xw.thn (by simp) ?_
            refine Xw.hit ?_
            refine Xw.nrm ?_
            refine TW.sreg ?_
            refine WL.op rfl rfl rfl (Go.Proofs.Ytobibplilbchfaa.W.quiet_move rfl rfl) ?_
            refine WL.op rfl rfl rfl (Go.Proofs.Ytobibplilbchfaa.W.quiet_assign rfl rfl) ?_
            refine WL.nil ?_
            refine TW.rt ?_
            refine bodyw_ret rfl rfl ?_
            have hu : usesF i = (([] ++ [i.x3]) : List Int) ++ ([] : List Int).filter (fun x => !isNo x) := by rw [usesF_eq, if_neg hc1, if_pos hc2, if_neg (by rw [hr1]; decide)]
            exact ⟨_, rfl, by rw [hu]; exact Row.base hV (fun k hk => by have := (Row.lt hV k hk).1; omega), ff⟩
          · skip
            refine WL.op rfl rfl rfl (Go.Proofs.Ytobibplilbchfaa.W.quiet_assign rfl rfl) ?_
            refine WL.nil ?_
            refine TW.seq ?_
            refine TW.sreg ?_
            refine WL.op rfl rfl rfl (Go.Proofs.Ytobibplilbchfaa.W.quiet_assign rfl rfl) ?_
            refine WL.nil ?_
            refine TW.block ?_
            refine O.loopG (n := i.args.length) (fun a _ => (intOf (a.tmps.getD 5 undef)).toNat) (fun j a W => ∃ (v : Value), Kn Try.f50.ntmps [(1, .pointer (some ⟨w.heap.size, 0, none⟩)), (3, v), (4, .slice (some ⟨gf, 0, none⟩) 10 10), (5, .int .i64 (j : Int))] a ∧ Fr (fun _ => False) w W ∧ Bx W w.heap.size #[.int .i64 i.x0, .int .i64 i.x1, .int .i64 i.x2, .int .i64 i.x3, .int .i64 i.x4, .int .i64 i.x5, .int .i64 i.x6, .int .i64 i.x7, .int .u32 i.u, .slice p.1 i.args.length p.2, .bool i.lg] 69 ∧ Bx W gf #[.bool (hD i.x0), .bool (hA i.x0), .bool (hB i.x0), .bool b3, .bool b4, .bool b5, .bool b6, .bool b7, .bool (hR i.x0), .bool b9] 4 ∧ Z ≤ W.heap.size ∧ Ints Z W v ((([] ++ [i.x3]) : List Int) ++ (i.args.take j).filter fun x => !isNo x)) (fun j a W h => by obtain ⟨_, h⟩ := h; exact O.slotv h.1 rfl) 0 (Nat.zero_le _) (fun a k => ⟨v2, (by (repeat (refine Kn.cons k rfl ?_)); exact k.base), ff, bx1, bxf, hz, by rw [List.take_zero]; first | exact hV | (simpa using hV)⟩) ?_
            rintro j a wl hj ⟨v, k, ff, bx1, bxf, hz, hV⟩
            have hA0 := hAr.fr ff
            refine TW.app (s := [(1, .pointer (some ⟨w.heap.size, 0, none⟩)), (3, v), (4, .slice (some ⟨gf, 0, none⟩) 10 10), (5, .int .i64 (j : Int))]) ?_ k
            refine TW.seq ?_
            refine TW.sreg ?_
            refine WL.op rfl rfl rfl (Go.Proofs.Ytobibplilbchfaa.W.quiet_move rfl rfl) ?_
            refine O.len rfl rfl rfl rfl rfl (qn_s_bool _ _ _ _) ?_
            refine WL.op rfl rfl rfl (Go.Proofs.Ytobibplilbchfaa.W.quiet_bin rfl rfl rfl (fun W => qb_gtr_int W _ _ _ _)) ?_
            refine O.split (fun hb => ?_) (fun hb => by simp at hb)
            refine WL.op rfl rfl rfl (Go.Proofs.Ytobibplilbchfaa.W.quiet_move rfl rfl) ?_
            refine WL.op rfl rfl rfl (Go.Proofs.Ytobibplilbchfaa.W.quiet_move rfl rfl) ?_
            refine O.ixa rfl rfl rfl rfl rfl rfl (by exact qi_s_bool _ _ _ _ _ 8 (by decide)) ?_
            refine WL.ld rfl rfl rfl rfl rfl (ql_bool _ _ _ (bxf.cell (j := 8) rfl)) ?_
            refine O.split (fun hb => ?_) (fun hb => by rw [hr1] at hb; cases hb)
            refine WL.op rfl rfl rfl (Go.Proofs.Ytobibplilbchfaa.W.quiet_pick rfl rfl rfl) ?_
            refine WL.op rfl rfl rfl (Go.Proofs.Ytobibplilbchfaa.W.quiet_move rfl rfl) ?_
            refine WL.op rfl rfl rfl (Go.Proofs.Ytobibplilbchfaa.W.quiet_move rfl rfl) ?_
            refine WL.op rfl rfl rfl (Go.Proofs.Ytobibplilbchfaa.W.quiet_field rfl rfl (fun W => (qa_api_Ins_9 W _ _))) ?_
            refine WL.ld rfl rfl rfl rfl rfl (ql_s_int _ _ _ _ _ (bx1.cell (j := 9) rfl)) ?_
            refine O.len rfl rfl rfl rfl rfl (qn_s_int _ _ _ _) ?_
            refine WL.op rfl rfl rfl (Go.Proofs.Ytobibplilbchfaa.W.quiet_bin rfl rfl rfl (fun W => qb_lss_int W _ _ _ _)) ?_
            refine O.split (fun hbj => ?_) (fun hbj => ?_)
            · skip
              have hj2 : j < i.args.length := by have := of_decide_eq_true hbj; omega
              obtain ⟨ga, oa, hpa, hca⟩ := hA0 j hj2
              refine WL.op rfl rfl rfl (Go.Proofs.Ytobibplilbchfaa.W.quiet_pick rfl rfl rfl) ?_
              refine WL.nil ?_
              refine TW.cond rfl (fun _ => ?_) (fun hb => by cases hb)
              refine TW.skip ?_
              refine TW.seq ?_
              refine TW.block ?_
              refine TW.sreg ?_
              refine WL.op rfl rfl rfl (Go.Proofs.Ytobibplilbchfaa.W.quiet_field rfl rfl (fun W => (qa_api_Ins_9 W _ _))) ?_
              refine WL.ld rfl rfl rfl rfl rfl (ql_s_int _ _ _ _ _ (bx1.cell (j := 9) rfl)) ?_
              refine WL.op rfl rfl rfl (Go.Proofs.Ytobibplilbchfaa.W.quiet_move rfl rfl) ?_
              refine O.ixa rfl rfl rfl rfl rfl rfl (by rw [hpa]; exact qi_s_int _ _ _ _ _ _ (by omega)) ?_
              refine WL.ld rfl rfl rfl rfl rfl (ql_int _ _ _ hca) ?_
              refine WL.op rfl rfl rfl (Go.Proofs.Ytobibplilbchfaa.W.quiet_bin rfl rfl rfl (fun W => qb_neq_int W _ _ _ _)) ?_
              refine O.split (fun h6 => ?_) (fun h6 => ?_)
              · skip
                refine WL.nil ?_
                refine TW.cond rfl (fun _ => ?_) (fun hb => by cases hb)
                refine TW.reg ?_
                refine WL.op rfl rfl rfl (Go.Proofs.Ytobibplilbchfaa.W.quiet_move rfl rfl) ?_
                refine WL.op rfl rfl rfl (Go.Proofs.Ytobibplilbchfaa.W.quiet_field rfl rfl (fun W => (qa_api_Ins_9 W _ _))) ?_
                refine WL.ld rfl rfl rfl rfl rfl (ql_s_int _ _ _ _ _ (bx1.cell (j := 9) rfl)) ?_
                refine WL.op rfl rfl rfl (Go.Proofs.Ytobibplilbchfaa.W.quiet_move rfl rfl) ?_
                refine O.ixa rfl rfl rfl rfl rfl rfl (by rw [hpa]; exact qi_s_int _ _ _ _ _ _ (by omega)) ?_
                refine WL.ld rfl rfl rfl rfl rfl (ql_int _ _ _ hca) ?_
                refine O.bsl rfl rfl rfl rfl rfl (qv_s_int_1 _ _) ?_
                refine WL.append rfl rfl rfl rfl rfl rfl (Ints.app (i.args.getD j 0) _ hV hz (by have := uses_len i j; simp; omega)) ?_
                rintro v7 wB7 ⟨hV7, hF7, _⟩
                replace bx1 := bx1.fr hF7 (fun e => by have := (Row.lt hV _ e).1; omega)
                replace bxf := bxf.fr hF7 (fun e => by have := (Row.lt hV _ e).1; omega)
                replace ff := ff.trans' hF7 (fun q hq e => by have := (Row.lt hV q e).1; omega)
                replace hz := Nat.le_trans hz hF7.size
                -- world wB7
                refine WL.op rfl rfl rfl (Go.Proofs.Ytobibplilbchfaa.W.quiet_assign rfl rfl) ?_
                refine WL.end ?_
                refine Xw.nblk ?_
                refine Xw.nrm ?_
                refine TW.reg ?_
                refine WL.op rfl rfl rfl (Go.Proofs.Ytobibplilbchfaa.W.quiet_move rfl rfl) ?_
                refine WL.op rfl rfl rfl (Go.Proofs.Ytobibplilbchfaa.W.quiet_bin rfl rfl rfl (fun W => qb_add_int W _ _ _ _ (by omega) (by omega))) ?_
                refine WL.op rfl rfl rfl (Go.Proofs.Ytobibplilbchfaa.W.quiet_assign rfl rfl) ?_
                refine WL.end ?_
                refine Xw.any (fun a k => ?_)
                refine ⟨j + 1, by omega, by omega, v7, (by (repeat (refine Kn.cons k rfl ?_)); exact k.base), ff, bx1, bxf, hz, ?_⟩
                rw [uses_yes hj2 (by simpa using h6), ← List.append_assoc]
                exact hV7
              · skip
                refine WL.nil ?_
                refine TW.cond rfl (fun hb => by cases hb) (fun _ => ?_)
                refine TW.skipx ?_
                refine Xw.nblk ?_
                refine Xw.nrm ?_
                refine TW.reg ?_
                refine WL.op rfl rfl rfl (Go.Proofs.Ytobibplilbchfaa.W.quiet_move rfl rfl) ?_
                refine WL.op rfl rfl rfl (Go.Proofs.Ytobibplilbchfaa.W.quiet_bin rfl rfl rfl (fun W => qb_add_int W _ _ _ _ (by omega) (by omega))) ?_
                refine WL.op rfl rfl rfl (Go.Proofs.Ytobibplilbchfaa.W.quiet_assign rfl rfl) ?_
                refine WL.end ?_
                refine Xw.any (fun a k => ?_)
                refine ⟨j + 1, by omega, by omega, v, (by (repeat (refine Kn.cons k rfl ?_)); exact k.base), ff, bx1, bxf, hz, ?_⟩
                rw [uses_no hj2 (by simpa using h6)]
                exact hV
            · skip
              have hje : j = i.args.length := by have := of_decide_eq_false hbj; omega
              subst hje
              rw [List.take_length] at hV
              refine WL.op rfl rfl rfl (Go.Proofs.Ytobibplilbchfaa.W.quiet_pick rfl rfl rfl) ?_
              refine WL.nil ?_
              refine TW.cond rfl (fun hb => by cases hb) (fun _ => ?_)
              refine TW.exit ?_
              refine Xw.thn (by simp) ?_
              refine Xw.thn (by simp) ?_
              refine Xw.hit ?_
              refine Xw.nrm ?_
              refine TW.sreg ?_
              refine WL.op rfl rfl rfl (Go.Proofs.Ytobibplilbchfaa.W.quiet_move rfl rfl) ?_
              refine WL.op rfl rfl rfl (Go.Proofs.Ytobibplilbchfaa.W.quiet_assign rfl rfl) ?_
              refine WL.nil ?_
              refine TW.rt ?_
              refine bodyw_ret rfl rfl ?_
              have hu : usesF i = (([] ++ [i.x3]) : List Int) ++ i.args.filter (fun x => !isNo x) := by rw [usesF_eq, if_neg hc1, if_pos hc2, if_pos hr1]
              exact ⟨_, rfl, by rw [hu]; exact Row.base hV (fun k hk => by have := (Row.lt hV k hk).1; omega), ff⟩
        · skip
          have hc2 : ¬(hB i.x0 = true ∧ i.x3 ≠ -1) := fun q => q.2 (by simpa using h4)
          cases hr1 : hR i.x0
          · skip
            refine WL.op rfl rfl rfl (Go.Proofs.Ytobibplilbchfaa.W.quiet_pick rfl rfl rfl) ?_
            refine WL.nil ?_
            refine TW.cond rfl (fun hb => by cases hb) (fun _ => ?_)
            refine TW.skip ?_
            refine TW.seq ?_
            refine TW.sreg ?_
            refine WL.op rfl rfl rfl (Go.Proofs.Ytobibplilbchfaa.W.quiet_assign rfl rfl) ?_
            refine WL.nil ?_
            refine TW.block ?_
            refine O.loopG (n := 0) (fun a _ => (intOf (a.tmps.getD 5 undef)).toNat) (fun j a W => ∃ (v : Value), Kn Try.f50.ntmps [(1, .pointer (some ⟨w.heap.size, 0, none⟩)), (3, v), (4, .slice (some ⟨gf, 0, none⟩) 10 10), (5, .int .i64 (j : Int))] a ∧ Fr (fun _ => False) w W ∧ Bx W w.heap.size #[.int .i64 i.x0, .int .i64 i.x1, .int .i64 i.x2, .int .i64 i.x3, .int .i64 i.x4, .int .i64 i.x5, .int .i64 i.x6, .int .i64 i.x7, .int .u32 i.u, .slice p.1 i.args.length p.2, .bool i.lg] 69 ∧ Bx W gf #[.bool (hD i.x0), .bool (hA i.x0), .bool (hB i.x0), .bool b3, .bool b4, .bool b5, .bool b6, .bool b7, .bool (hR i.x0), .bool b9] 4 ∧ Z ≤ W.heap.size ∧ Ints Z W v ((([] ++ []) : List Int) ++ (([] : List Int)).filter fun x => !isNo x)) (fun j a W h => by obtain ⟨_, h⟩ := h; exact O.slotv h.1 rfl) 0 (Nat.zero_le _) (fun a k => ⟨(.slice none 0 0), (by (repeat (refine Kn.cons k rfl ?_)); exact k.base), ff, bx1, bxf, hz, by first | exact hV | (simpa using hV)⟩) ?_
            rintro j a wl hj ⟨v, k, ff, bx1, bxf, hz, hV⟩
            refine TW.app (s := [(1, .pointer (some ⟨w.heap.size, 0, none⟩)), (3, v), (4, .slice (some ⟨gf, 0, none⟩) 10 10), (5, .int .i64 (j : Int))]) ?_ k
            refine TW.seq ?_
            refine TW.sreg ?_
            refine WL.op rfl rfl rfl (Go.Proofs.Ytobibplilbchfaa.W.quiet_move rfl rfl) ?_
            refine O.len rfl rfl rfl rfl rfl (qn_s_bool _ _ _ _) ?_
            refine WL.op rfl rfl rfl (Go.Proofs.Ytobibplilbchfaa.W.quiet_bin rfl rfl rfl (fun W => qb_gtr_int W _ _ _ _)) ?_
            refine O.split (fun hb => ?_) (fun hb => by simp at hb)
            refine WL.op rfl rfl rfl (Go.Proofs.Ytobibplilbchfaa.W.quiet_move rfl rfl) ?_
            refine WL.op rfl rfl rfl (Go.Proofs.Ytobibplilbchfaa.W.quiet_move rfl rfl) ?_
            refine O.ixa rfl rfl rfl rfl rfl rfl (by exact qi_s_bool _ _ _ _ _ 8 (by decide)) ?_
            refine WL.ld rfl rfl rfl rfl rfl (ql_bool _ _ _ (bxf.cell (j := 8) rfl)) ?_
            refine O.split (fun hb => by rw [hr1] at hb; cases hb) (fun hb => ?_)
            refine WL.op rfl rfl rfl (Go.Proofs.Ytobibplilbchfaa.W.quiet_pick rfl rfl rfl) ?_
            refine WL.op rfl rfl rfl (Go.Proofs.Ytobibplilbchfaa.W.quiet_move rfl rfl) ?_
            refine WL.skip rfl rfl rfl ?_
            refine WL.skip rfl rfl rfl ?_
            refine WL.skip rfl rfl rfl ?_
            refine WL.skip rfl rfl rfl ?_
            refine WL.skip rfl rfl rfl ?_
            refine WL.op rfl rfl rfl (Go.Proofs.Ytobibplilbchfaa.W.quiet_pick rfl rfl rfl) ?_
            refine WL.nil ?_
            refine TW.cond rfl (fun hb => by cases hb) (fun _ => ?_)
            refine TW.exit ?_
            refine Xw.thn (by simp) ?_
            refine Xw.thn (by simp) ?_
            refine Xw.hit ?_
            refine Xw.nrm ?_
            refine TW.sreg ?_
            refine WL.op rfl rfl rfl (Go.Proofs.Ytobibplilbchfaa.W.quiet_move rfl rfl) ?_
            refine WL.op rfl rfl rfl (Go.Proofs.Ytobibplilbchfaa.W.quiet_assign rfl rfl) ?_
            refine WL.nil ?_
            refine TW.rt ?_
            refine bodyw_ret rfl rfl ?_
            have hu : usesF i = (([] ++ []) : List Int) ++ ([] : List Int).filter (fun x => !isNo x) := by rw [usesF_eq, if_neg hc1, if_neg hc2, if_neg (by rw [hr1]; decide)]
            exact ⟨_, rfl, by rw [hu]; exact Row.base hV (fun k hk => by have := (Row.lt hV k hk).1; omega), ff⟩
          · skip
            refine WL.op rfl rfl rfl (Go.Proofs.Ytobibplilbchfaa.W.quiet_pick rfl rfl rfl) ?_
            refine WL.nil ?_
            refine TW.cond rfl (fun hb => by cases hb) (fun _ => ?_)
            refine TW.skip ?_
            refine TW.seq ?_
            refine TW.sreg ?_
            refine WL.op rfl rfl rfl (Go.Proofs.Ytobibplilbchfaa.W.quiet_assign rfl rfl) ?_
            refine WL.nil ?_
            refine TW.block ?_
            refine O.loopG (n := i.args.length) (fun a _ => (intOf (a.tmps.getD 5 undef)).toNat) (fun j a W => ∃ (v : Value), Kn Try.f50.ntmps [(1, .pointer (some ⟨w.heap.size, 0, none⟩)), (3, v), (4, .slice (some ⟨gf, 0, none⟩) 10 10), (5, .int .i64 (j : Int))] a ∧ Fr (fun _ => False) w W ∧ Bx W w.heap.size #[.int .i64 i.x0, .int .i64 i.x1, .int .i64 i.x2, .int .i64 i.x3, .int .i64 i.x4, .int .i64 i.x5, .int .i64 i.x6, .int .i64 i.x7, .int .u32 i.u, .slice p.1 i.args.length p.2, .bool i.lg] 69 ∧ Bx W gf #[.bool (hD i.x0), .bool (hA i.x0), .bool (hB i.x0), .bool b3, .bool b4, .bool b5, .bool b6, .bool b7, .bool (hR i.x0), .bool b9] 4 ∧ Z ≤ W.heap.size ∧ Ints Z W v ((([] ++ []) : List Int) ++ (i.args.take j).filter fun x => !isNo x)) (fun j a W h => by obtain ⟨_, h⟩ := h; exact O.slotv h.1 rfl) 0 (Nat.zero_le _) (fun a k => ⟨(.slice none 0 0), (by (repeat (refine Kn.cons k rfl ?_)); exact k.base), ff, bx1, bxf, hz, by rw [List.take_zero]; first | exact hV | (simpa using hV)⟩) ?_
            rintro j a wl hj ⟨v, k, ff, bx1, bxf, hz, hV⟩
            have hA0 := hAr.fr ff
            refine TW.app (s := [(1, .pointer (some ⟨w.heap.size, 0, none⟩)), (3, v), (4, .slice (some ⟨gf, 0, none⟩) 10 10), (5, .int .i64 (j : Int))]) ?_ k
            refine TW.seq ?_
            refine TW.sreg ?_
            refine WL.op rfl rfl rfl (Go.Proofs.Ytobibplilbchfaa.W.quiet_move rfl rfl) ?_
            refine O.len rfl rfl rfl rfl rfl (qn_s_bool _ _ _ _) ?_
            refine WL.op rfl rfl rfl (Go.Proofs.Ytobibplilbchfaa.W.quiet_bin rfl rfl rfl (fun W => qb_gtr_int W _ _ _ _)) ?_
            refine O.split (fun hb => ?_) (fun hb => by simp at hb)
            refine WL.op rfl rfl rfl (Go.Proofs.Ytobibplilbchfaa.W.quiet_move rfl rfl) ?_
            refine WL.op rfl rfl rfl (Go.Proofs.Ytobibplilbchfaa.W.quiet_move rfl rfl) ?_
            refine O.ixa rfl rfl rfl rfl rfl rfl (by exact qi_s_bool _ _ _ _ _ 8 (by decide)) ?_
            refine WL.ld rfl rfl rfl rfl rfl (ql_bool _ _ _ (bxf.cell (j := 8) rfl)) ?_
            refine O.split (fun hb => ?_) (fun hb => by rw [hr1] at hb; cases hb)
            refine WL.op rfl rfl rfl (Go.Proofs.Ytobibplilbchfaa.W.quiet_pick rfl rfl rfl) ?_
            refine WL.op rfl rfl rfl (Go.Proofs.Ytobibplilbchfaa.W.quiet_move rfl rfl) ?_
            refine WL.op rfl rfl rfl (Go.Proofs.Ytobibplilbchfaa.W.quiet_move rfl rfl) ?_
            refine WL.op rfl rfl rfl (Go.Proofs.Ytobibplilbchfaa.W.quiet_field rfl rfl (fun W => (qa_api_Ins_9 W _ _))) ?_
            refine WL.ld rfl rfl rfl rfl rfl (ql_s_int _ _ _ _ _ (bx1.cell (j := 9) rfl)) ?_
            refine O.len rfl rfl rfl rfl rfl (qn_s_int _ _ _ _) ?_
            refine WL.op rfl rfl rfl (Go.Proofs.Ytobibplilbchfaa.W.quiet_bin rfl rfl rfl (fun W => qb_lss_int W _ _ _ _)) ?_
            refine O.split (fun hbj => ?_) (fun hbj => ?_)
            · skip
              have hj2 : j < i.args.length := by have := of_decide_eq_true hbj; omega
              obtain ⟨ga, oa, hpa, hca⟩ := hA0 j hj2
              refine WL.op rfl rfl rfl (Go.Proofs.Ytobibplilbchfaa.W.quiet_pick rfl rfl rfl) ?_
              refine WL.nil ?_
              refine TW.cond rfl (fun _ => ?_) (fun hb => by cases hb)
              refine TW.skip ?_
              refine TW.seq ?_
              refine TW.block ?_
              refine TW.sreg ?_
              refine WL.op rfl rfl rfl (Go.Proofs.Ytobibplilbchfaa.W.quiet_field rfl rfl (fun W => (qa_api_Ins_9 W _ _))) ?_
              refine WL.ld rfl rfl rfl rfl rfl (ql_s_int _ _ _ _ _ (bx1.cell (j := 9) rfl)) ?_
              refine WL.op rfl rfl rfl (Go.Proofs.Ytobibplilbchfaa.W.quiet_move rfl rfl) ?_
              refine O.ixa rfl rfl rfl rfl rfl rfl (by rw [hpa]; exact qi_s_int _ _ _ _ _ _ (by omega)) ?_
              refine WL.ld rfl rfl rfl rfl rfl (ql_int _ _ _ hca) ?_
              refine WL.op rfl rfl rfl (Go.Proofs.Ytobibplilbchfaa.W.quiet_bin rfl rfl rfl (fun W => qb_neq_int W _ _ _ _)) ?_
              refine O.split (fun h6 => ?_) (fun h6 => ?_)
              · skip
                refine WL.nil ?_
                refine TW.cond rfl (fun _ => ?_) (fun hb => by cases hb)
                refine TW.reg ?_
                refine WL.op rfl rfl rfl (Go.Proofs.Ytobibplilbchfaa.W.quiet_move rfl rfl) ?_
                refine WL.op rfl rfl rfl (Go.Proofs.Ytobibplilbchfaa.W.quiet_field rfl rfl (fun W => (qa_api_Ins_9 W _ _))) ?_
                refine WL.ld rfl rfl rfl rfl rfl (ql_s_int _ _ _ _ _ (bx1.cell (j := 9) rfl)) ?_
                refine WL.op rfl rfl rfl (Go.Proofs.Ytobibplilbchfaa.W.quiet_move rfl rfl) ?_
                refine O.ixa rfl rfl rfl rfl rfl rfl (by rw [hpa]; exact qi_s_int _ _ _ _ _ _ (by omega)) ?_
                refine WL.ld rfl rfl rfl rfl rfl (ql_int _ _ _ hca) ?_
                refine O.bsl rfl rfl rfl rfl rfl (qv_s_int_1 _ _) ?_
                refine WL.append rfl rfl rfl rfl rfl rfl (Ints.app (i.args.getD j 0) _ hV hz (by have := uses_len i j; simp; omega)) ?_
                rintro v7 wB7 ⟨hV7, hF7, _⟩
                replace bx1 := bx1.fr hF7 (fun e => by have := (Row.lt hV _ e).1; omega)
                replace bxf := bxf.fr hF7 (fun e => by have := (Row.lt hV _ e).1; omega)
                replace ff := ff.trans' hF7 (fun q hq e => by have := (Row.lt hV q e).1; omega)
                replace hz := Nat.le_trans hz hF7.size
                -- world wB7
                refine WL.op rfl rfl rfl (Go.Proofs.Ytobibplilbchfaa.W.quiet_assign rfl rfl) ?_
                refine WL.end ?_
                refine Xw.nblk ?_
                refine Xw.nrm ?_
                refine TW.reg ?_
                refine WL.op rfl rfl rfl (Go.Proofs.Ytobibplilbchfaa.W.quiet_move rfl rfl) ?_
                refine WL.op rfl rfl rfl (Go.Proofs.Ytobibplilbchfaa.W.quiet_bin rfl rfl rfl (fun W => qb_add_int W _ _ _ _ (by omega) (by omega))) ?_
                refine WL.op rfl rfl rfl (Go.Proofs.Ytobibplilbchfaa.W.quiet_assign rfl rfl) ?_
                refine WL.end ?_
                refine Xw.any (fun a k => ?_)
                refine ⟨j + 1, by omega, by omega, v7, (by (repeat (refine Kn.cons k rfl ?_)); exact k.base), ff, bx1, bxf, hz, ?_⟩
                rw [uses_yes hj2 (by simpa using h6), ← List.append_assoc]
                exact hV7
              · skip
                refine WL.nil ?_
                refine TW.cond rfl (fun hb => by cases hb) (fun _ => ?_)
                refine TW.skipx ?_
                refine Xw.nblk ?_
                refine Xw.nrm ?_
                refine TW.reg ?_
                refine WL.op rfl rfl rfl (Go.Proofs.Ytobibplilbchfaa.W.quiet_move rfl rfl) ?_
                refine WL.op rfl rfl rfl (Go.Proofs.Ytobibplilbchfaa.W.quiet_bin rfl rfl rfl (fun W => qb_add_int W _ _ _ _ (by omega) (by omega))) ?_
                refine WL.op rfl rfl rfl (Go.Proofs.Ytobibplilbchfaa.W.quiet_assign rfl rfl) ?_
                refine WL.end ?_
                refine Xw.any (fun a k => ?_)
                refine ⟨j + 1, by omega, by omega, v, (by (repeat (refine Kn.cons k rfl ?_)); exact k.base), ff, bx1, bxf, hz, ?_⟩
                rw [uses_no hj2 (by simpa using h6)]
                exact hV
            · skip
              have hje : j = i.args.length := by have := of_decide_eq_false hbj; omega
              subst hje
              rw [List.take_length] at hV
              refine WL.op rfl rfl rfl (Go.Proofs.Ytobibplilbchfaa.W.quiet_pick rfl rfl rfl) ?_
              refine WL.nil ?_
              refine TW.cond rfl (fun hb => by cases hb) (fun _ => ?_)
              refine TW.exit ?_
              refine Xw.thn (by simp) ?_
              refine Xw.thn (by simp) ?_
              refine Xw.hit ?_
              refine Xw.nrm ?_
              refine TW.sreg ?_
              refine WL.op rfl rfl rfl (Go.Proofs.Ytobibplilbchfaa.W.quiet_move rfl rfl) ?_
              refine WL.op rfl rfl rfl (Go.Proofs.Ytobibplilbchfaa.W.quiet_assign rfl rfl) ?_
              refine WL.nil ?_
              refine TW.rt ?_
              refine bodyw_ret rfl rfl ?_
              have hu : usesF i = (([] ++ []) : List Int) ++ i.args.filter (fun x => !isNo x) := by rw [usesF_eq, if_neg hc1, if_neg hc2, if_pos hr1]
              exact ⟨_, rfl, by rw [hu]; exact Row.base hV (fun k hk => by have := (Row.lt hV k hk).1; omega), ff⟩
      · skip
        have hc2 : ¬(hB i.x0 = true ∧ i.x3 ≠ -1) := fun q => by rw [q.1] at h3; cases h3
        cases hr1 : hR i.x0
        · skip
          refine WL.op rfl rfl rfl (Go.Proofs.Ytobibplilbchfaa.W.quiet_pick rfl rfl rfl) ?_
          refine WL.op rfl rfl rfl (Go.Proofs.Ytobibplilbchfaa.W.quiet_move rfl rfl) ?_
          refine WL.skip rfl rfl rfl ?_
          refine WL.skip rfl rfl rfl ?_
          refine WL.skip rfl rfl rfl ?_
          refine WL.op rfl rfl rfl (Go.Proofs.Ytobibplilbchfaa.W.quiet_pick rfl rfl rfl) ?_
          refine WL.nil ?_
          refine TW.cond rfl (fun hb => by cases hb) (fun _ => ?_)
          refine TW.skip ?_
          refine TW.seq ?_
          refine TW.sreg ?_
          refine WL.op rfl rfl rfl (Go.Proofs.Ytobibplilbchfaa.W.quiet_assign rfl rfl) ?_
          refine WL.nil ?_
          refine TW.block ?_
          refine O.loopG (n := 0) (fun a _ => (intOf (a.tmps.getD 5 undef)).toNat) (fun j a W => ∃ (v : Value), Kn Try.f50.ntmps [(1, .pointer (some ⟨w.heap.size, 0, none⟩)), (3, v), (4, .slice (some ⟨gf, 0, none⟩) 10 10), (5, .int .i64 (j : Int))] a ∧ Fr (fun _ => False) w W ∧ Bx W w.heap.size #[.int .i64 i.x0, .int .i64 i.x1, .int .i64 i.x2, .int .i64 i.x3, .int .i64 i.x4, .int .i64 i.x5, .int .i64 i.x6, .int .i64 i.x7, .int .u32 i.u, .slice p.1 i.args.length p.2, .bool i.lg] 69 ∧ Bx W gf #[.bool (hD i.x0), .bool (hA i.x0), .bool (hB i.x0), .bool b3, .bool b4, .bool b5, .bool b6, .bool b7, .bool (hR i.x0), .bool b9] 4 ∧ Z ≤ W.heap.size ∧ Ints Z W v ((([] ++ []) : List Int) ++ (([] : List Int)).filter fun x => !isNo x)) (fun j a W h => by obtain ⟨_, h⟩ := h; exact O.slotv h.1 rfl) 0 (Nat.zero_le _) (fun a k => ⟨(.slice none 0 0), (by (repeat (refine Kn.cons k rfl ?_)); exact k.base), ff, bx1, bxf, hz, by first | exact hV | (simpa using hV)⟩) ?_
          rintro j a wl hj ⟨v, k, ff, bx1, bxf, hz, hV⟩
          refine TW.app (s := [(1, .pointer (some ⟨w.heap.size, 0, none⟩)), (3, v), (4, .slice (some ⟨gf, 0, none⟩) 10 10), (5, .int .i64 (j : Int))]) ?_ k
          refine TW.seq ?_
          refine TW.sreg ?_
          refine WL.op rfl rfl rfl (Go.Proofs.Ytobibplilbchfaa.W.quiet_move rfl rfl) ?_
          refine O.len rfl rfl rfl rfl rfl (qn_s_bool _ _ _ _) ?_
          refine WL.op rfl rfl rfl (Go.Proofs.Ytobibplilbchfaa.W.quiet_bin rfl rfl rfl (fun W => qb_gtr_int W _ _ _ _)) ?_
          refine O.split (fun hb => ?_) (fun hb => by simp at hb)
          refine WL.op rfl rfl rfl (Go.Proofs.Ytobibplilbchfaa.W.quiet_move rfl rfl) ?_
          refine WL.op rfl rfl rfl (Go.Proofs.Ytobibplilbchfaa.W.quiet_move rfl rfl) ?_
          refine O.ixa rfl rfl rfl rfl rfl rfl (by exact qi_s_bool _ _ _ _ _ 8 (by decide)) ?_
          refine WL.ld rfl rfl rfl rfl rfl (ql_bool _ _ _ (bxf.cell (j := 8) rfl)) ?_
          refine O.split (fun hb => by rw [hr1] at hb; cases hb) (fun hb => ?_)
          refine WL.op rfl rfl rfl (Go.Proofs.Ytobibplilbchfaa.W.quiet_pick rfl rfl rfl) ?_
          refine WL.op rfl rfl rfl (Go.Proofs.Ytobibplilbchfaa.W.quiet_move rfl rfl) ?_
          refine WL.skip rfl rfl rfl ?_
          refine WL.skip rfl rfl rfl ?_
          refine WL.skip rfl rfl rfl ?_
          refine WL.skip rfl rfl rfl ?_
          refine WL.skip rfl rfl rfl ?_
          refine WL.op rfl rfl rfl (Go.Proofs.Ytobibplilbchfaa.W.quiet_pick rfl rfl rfl) ?_
          refine WL.nil ?_
          refine TW.cond rfl (fun hb => by cases hb) (fun _ => ?_)
          refine TW.exit ?_
          refine Xw.thn (by simp) ?_
          refine Xw.thn (by simp) ?_
          refine Xw.hit ?_
          refine Xw.nrm ?_
          refine TW.sreg ?_
          refine WL.op rfl rfl rfl (Go.Proofs.Ytobibplilbchfaa.W.quiet_move rfl rfl) ?_
          refine WL.op rfl rfl rfl (Go.Proofs.Ytobibplilbchfaa.W.quiet_assign rfl rfl) ?_
          refine WL.nil ?_
          refine TW.rt ?_
          refine bodyw_ret rfl rfl ?_
          have hu : usesF i = (([] ++ []) : List Int) ++ ([] : List Int).filter (fun x => !isNo x) := by rw [usesF_eq, if_neg hc1, if_neg hc2, if_neg (by rw [hr1]; decide)]
          exact ⟨_, rfl, by rw [hu]; exact Row.base hV (fun k hk => by have := (Row.lt hV k hk).1; omega), ff⟩
        · skip
          refine WL.op rfl rfl rfl (Go.Proofs.Ytobibplilbchfaa.W.quiet_pick rfl rfl rfl) ?_
          refine WL.op rfl rfl rfl (Go.Proofs.Ytobibplilbchfaa.W.quiet_move rfl rfl) ?_
          refine WL.skip rfl rfl rfl ?_
          refine WL.skip rfl rfl rfl ?_
          refine WL.skip rfl rfl rfl ?_
          refine WL.op rfl rfl rfl (Go.Proofs.Ytobibplilbchfaa.W.quiet_pick rfl rfl rfl) ?_
          refine WL.nil ?_
          refine TW.cond rfl (fun hb => by cases hb) (fun _ => ?_)
          refine TW.skip ?_
          refine TW.seq ?_
          refine TW.sreg ?_
          refine WL.op rfl rfl rfl (Go.Proofs.Ytobibplilbchfaa.W.quiet_assign rfl rfl) ?_
          refine WL.nil ?_
          refine TW.block ?_
          refine O.loopG (n := i.args.length) (fun a _ => (intOf (a.tmps.getD 5 undef)).toNat) (fun j a W => ∃ (v : Value), Kn Try.f50.ntmps [(1, .pointer (some ⟨w.heap.size, 0, none⟩)), (3, v), (4, .slice (some ⟨gf, 0, none⟩) 10 10), (5, .int .i64 (j : Int))] a ∧ Fr (fun _ => False) w W ∧ Bx W w.heap.size #[.int .i64 i.x0, .int .i64 i.x1, .int .i64 i.x2, .int .i64 i.x3, .int .i64 i.x4, .int .i64 i.x5, .int .i64 i.x6, .int .i64 i.x7, .int .u32 i.u, .slice p.1 i.args.length p.2, .bool i.lg] 69 ∧ Bx W gf #[.bool (hD i.x0), .bool (hA i.x0), .bool (hB i.x0), .bool b3, .bool b4, .bool b5, .bool b6, .bool b7, .bool (hR i.x0), .bool b9] 4 ∧ Z ≤ W.heap.size ∧ Ints Z W v ((([] ++ []) : List Int) ++ (i.args.take j).filter fun x => !isNo x)) (fun j a W h => by obtain ⟨_, h⟩ := h; exact O.slotv h.1 rfl) 0 (Nat.zero_le _) (fun a k => ⟨(.slice none 0 0), (by (repeat (refine Kn.cons k rfl ?_)); exact k.base), ff, bx1, bxf, hz, by rw [List.take_zero]; first | exact hV | (simpa using hV)⟩) ?_
          rintro j a wl hj ⟨v, k, ff, bx1, bxf, hz, hV⟩
          have hA0 := hAr.fr ff
          refine TW.app (s := [(1, .pointer (some ⟨w.heap.size, 0, none⟩)), (3, v), (4, .slice (some ⟨gf, 0, none⟩) 10 10), (5, .int .i64 (j : Int))]) ?_ k
          refine TW.seq ?_
          refine TW.sreg ?_
          refine WL.op rfl rfl rfl (Go.Proofs.Ytobibplilbchfaa.W.quiet_move rfl rfl) ?_
          refine O.len rfl rfl rfl rfl rfl (qn_s_bool _ _ _ _) ?_
          refine WL.op rfl rfl rfl (Go.Proofs.Ytobibplilbchfaa.W.quiet_bin rfl rfl rfl (fun W => qb_gtr_int W _ _ _ _)) ?_
          refine O.split (fun hb => ?_) (fun hb => by simp at hb)
          refine WL.op rfl rfl rfl (Go.Proofs.Ytobibplilbchfaa.W.quiet_move rfl rfl) ?_
          refine WL.op rfl rfl rfl (Go.Proofs.Ytobibplilbchfaa.W.quiet_move rfl rfl) ?_
          refine O.ixa rfl rfl rfl rfl rfl rfl (by exact qi_s_bool _ _ _ _ _ 8 (by decide)) ?_
          refine WL.ld rfl rfl rfl rfl rfl (ql_bool _ _ _ (bxf.cell (j := 8) rfl)) ?_
          refine O.split (fun hb => ?_) (fun hb => by rw [hr1] at hb; cases hb)
          refine WL.op rfl rfl rfl (Go.Proofs.Ytobibplilbchfaa.W.quiet_pick rfl rfl rfl) ?_
          refine WL.op rfl rfl rfl (Go.Proofs.Ytobibplilbchfaa.W.quiet_move rfl rfl) ?_
          refine WL.op rfl rfl rfl (Go.Proofs.Ytobibplilbchfaa.W.quiet_move rfl rfl) ?_
          refine WL.op rfl rfl rfl (Go.Proofs.Ytobibplilbchfaa.W.quiet_field rfl rfl (fun W => (qa_api_Ins_9 W _ _))) ?_
          refine WL.ld rfl rfl rfl rfl rfl (ql_s_int _ _ _ _ _ (bx1.cell (j := 9) rfl)) ?_
          refine O.len rfl rfl rfl rfl rfl (qn_s_int _ _ _ _) ?_
          refine WL.op rfl rfl rfl (Go.Proofs.Ytobibplilbchfaa.W.quiet_bin rfl rfl rfl (fun W => qb_lss_int W _ _ _ _)) ?_
          refine O.split (fun hbj => ?_) (fun hbj => ?_)
          · skip
            have hj2 : j < i.args.length := by have := of_decide_eq_true hbj; omega
            obtain ⟨ga, oa, hpa, hca⟩ := hA0 j hj2
            refine WL.op rfl rfl rfl (Go.Proofs.Ytobibplilbchfaa.W.quiet_pick rfl rfl rfl) ?_
            refine WL.nil ?_
            refine TW.cond rfl (fun _ => ?_) (fun hb => by cases hb)
            refine TW.skip ?_
            refine TW.seq ?_
            refine TW.block ?_
            refine TW.sreg ?_
            refine WL.op rfl rfl rfl (Go.Proofs.Ytobibplilbchfaa.W.quiet_field rfl rfl (fun W => (qa_api_Ins_9 W _ _))) ?_
            refine WL.ld rfl rfl rfl rfl rfl (ql_s_int _ _ _ _ _ (bx1.cell (j := 9) rfl)) ?_
            refine WL.op rfl rfl rfl (Go.Proofs.Ytobibplilbchfaa.W.quiet_move rfl rfl) ?_
            refine O.ixa rfl rfl rfl rfl rfl rfl (by rw [hpa]; exact qi_s_int _ _ _ _ _ _ (by omega)) ?_
            refine WL.ld rfl rfl rfl rfl rfl (ql_int _ _ _ hca) ?_
            refine WL.op rfl rfl rfl (Go.Proofs.Ytobibplilbchfaa.W.quiet_bin rfl rfl rfl (fun W => qb_neq_int W _ _ _ _)) ?_
            refine O.split (fun h6 => ?_) (fun h6 => ?_)
            · skip
              refine WL.nil ?_
              refine TW.cond rfl (fun _ => ?_) (fun hb => by cases hb)
              refine TW.reg ?_
              refine WL.op rfl rfl rfl (Go.Proofs.Ytobibplilbchfaa.W.quiet_move rfl rfl) ?_
              refine WL.op rfl rfl rfl (Go.Proofs.Ytobibplilbchfaa.W.quiet_field rfl rfl (fun W => (qa_api_Ins_9 W _ _))) ?_
              refine WL.ld rfl rfl rfl rfl rfl (ql_s_int _ _ _ _ _ (bx1.cell (j := 9) rfl)) ?_
              refine WL.op rfl rfl rfl (Go.Proofs.Ytobibplilbchfaa.W.quiet_move rfl rfl) ?_
              refine O.ixa rfl rfl rfl rfl rfl rfl (by rw [hpa]; exact qi_s_int _ _ _ _ _ _ (by omega)) ?_
              refine WL.ld rfl rfl rfl rfl rfl (ql_int _ _ _ hca) ?_
              refine O.bsl rfl rfl rfl rfl rfl (qv_s_int_1 _ _) ?_
              refine WL.append rfl rfl rfl rfl rfl rfl (Ints.app (i.args.getD j 0) _ hV hz (by have := uses_len i j; simp; omega)) ?_
              rintro v7 wB7 ⟨hV7, hF7, _⟩
              replace bx1 := bx1.fr hF7 (fun e => by have := (Row.lt hV _ e).1; omega)
              replace bxf := bxf.fr hF7 (fun e => by have := (Row.lt hV _ e).1; omega)
              replace ff := ff.trans' hF7 (fun q hq e => by have := (Row.lt hV q e).1; omega)
              replace hz := Nat.le_trans hz hF7.size
              -- world wB7
              refine WL.op rfl rfl rfl (Go.Proofs.Ytobibplilbchfaa.W.quiet_assign rfl rfl) ?_
              refine WL.end ?_
              refine Xw.nblk ?_
              refine Xw.nrm ?_
              refine TW.reg ?_
              refine WL.op rfl rfl rfl (Go.Proofs.Ytobibplilbchfaa.W.quiet_move rfl rfl) ?_
              refine WL.op rfl rfl rfl (Go.Proofs.Ytobibplilbchfaa.W.quiet_bin rfl rfl rfl (fun W => qb_add_int W _ _ _ _ (by omega) (by omega))) ?_
              refine WL.op rfl rfl rfl (Go.Proofs.Ytobibplilbchfaa.W.quiet_assign rfl rfl) ?_
              refine WL.end ?_
              refine Xw.any (fun a k => ?_)
              refine ⟨j + 1, by omega, by omega, v7, (by (repeat (refine Kn.cons k rfl ?_)); exact k.base), ff, bx1, bxf, hz, ?_⟩
              rw [uses_yes hj2 (by simpa using h6), ← List.append_assoc]
              exact hV7
            · skip
              refine WL.nil ?_
              refine TW.cond rfl (fun hb => by cases hb) (fun _ => ?_)
              refine TW.skipx ?_
              refine Xw.nblk ?_
              refine Xw.nrm ?_
              refine TW.reg ?_
              refine WL.op rfl rfl rfl (Go.Proofs.Ytobibplilbchfaa.W.quiet_move rfl rfl) ?_
              refine WL.op rfl rfl rfl (Go.Proofs.Ytobibplilbchfaa.W.quiet_bin rfl rfl rfl (fun W => qb_add_int W _ _ _ _ (by omega) (by omega))) ?_
              refine WL.op rfl rfl rfl (Go.Proofs.Ytobibplilbchfaa.W.quiet_assign rfl rfl) ?_
              refine WL.end ?_
              refine Xw.any (fun a k => ?_)
              refine ⟨j + 1, by omega, by omega, v, (by (repeat (refine Kn.cons k rfl ?_)); exact k.base), ff, bx1, bxf, hz, ?_⟩
              rw [uses_no hj2 (by simpa using h6)]
              exact hV
          · skip
            have hje : j = i.args.length := by have := of_decide_eq_false hbj; omega
            subst hje
            rw [List.take_length] at hV
            refine WL.op rfl rfl rfl (Go.Proofs.Ytobibplilbchfaa.W.quiet_pick rfl rfl rfl) ?_
            refine WL.nil ?_
            refine TW.cond rfl (fun hb => by cases hb) (fun _ => ?_)
            refine TW.exit ?_
            refine Xw.thn (by simp) ?_
            refine Xw.thn (by simp) ?_
            refine Xw.hit ?_
            refine Xw.nrm ?_
            refine TW.sreg ?_
            refine WL.op rfl rfl rfl (Go.Proofs.Ytobibplilbchfaa.W.quiet_move rfl rfl) ?_
            refine WL.op rfl rfl rfl (Go.Proofs.Ytobibplilbchfaa.W.quiet_assign rfl rfl) ?_
            refine WL.nil ?_
            refine TW.rt ?_
            refine bodyw_ret rfl rfl ?_
            have hu : usesF i = (([] ++ []) : List Int) ++ i.args.filter (fun x => !isNo x) := by rw [usesF_eq, if_neg hc1, if_neg hc2, if_pos hr1]
            exact ⟨_, rfl, by rw [hu]; exact Row.base hV (fun k hk => by have := (Row.lt hV k hk).1; omega), ff⟩
end Go.Proofs.Ytobibplilbchfaa
