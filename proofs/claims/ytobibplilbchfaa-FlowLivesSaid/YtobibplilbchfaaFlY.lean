/-
  Flow (layer 16): what comes first in a block; live, by all ways on.
-/
import Derived.Test.YtobibplilbchfaaLvG
import Derived.Test.YtobibplilbchfaaFlK
import Derived.Test.YtobibplilbchfaaDuE
import Derived.Test.YtobibplilbchfaaFlQ
namespace Go.Proofs.Ytobibplilbchfaa
open Go.RowKit
set_option linter.unusedVariables false
set_option linter.unusedSimpArgs false
set_option linter.unnecessarySimpa false
theorem qk_rushlightref13_Uses (w : World) (vs : Array Value) : (callFunc 50 vs).run Try.prog w = .ok (.enter 50 vs) w := by simp [go_sem]
theorem qk_rushlightref16_has (w : World) (vs : Array Value) : (callFunc 49 vs).run Try.prog w = .ok (.enter 49 vs) w := by simp [go_sem]
theorem qk_rushlightref13_Def (w : World) (vs : Array Value) : (callFunc 51 vs).run Try.prog w = .ok (.enter 51 vs) w := by simp [go_sem]
/-- What comes first in a block from a place on: 1: read, 2: set, 0: neither. -/
def wl (b : Bk) (r : Int) : List Inn → Int
  | [] => if (b.en = 2 ∨ b.en = 3) ∧ b.a = r then 1 else 0
  | i :: is => if (usesF i).contains r = true then 1 else if defF i = r then 2 else wl b r is
theorem wl_end {b : Bk} {r : Int} : wl b r [] = if (b.en = 2 ∨ b.en = 3) ∧ b.a = r then 1 else 0 := rfl
theorem drop_cons {l : List Inn} {j : Nat} (h : j < l.length) : l.drop j = l.getD j inn0 :: l.drop (j + 1) := by
  rw [List.drop_eq_getElem_cons h, List.getD_eq_getElem?_getD, List.getElem?_eq_getElem h]; rfl
theorem wl_u {b : Bk} {r : Int} {j : Nat} (h : j < b.ins.length) (hu : (usesF (b.ins.getD j inn0)).contains r = true) : wl b r (b.ins.drop j) = 1 := by
  rw [drop_cons h]; unfold wl; rw [if_pos hu]
theorem wl_d {b : Bk} {r : Int} {j : Nat} (h : j < b.ins.length) (hu : (usesF (b.ins.getD j inn0)).contains r = false) (hd : defF (b.ins.getD j inn0) = r) : wl b r (b.ins.drop j) = 2 := by
  rw [drop_cons h]; unfold wl; rw [if_neg (by rw [hu]; decide), if_pos hd]
theorem wl_n {b : Bk} {r : Int} {j : Nat} (h : j < b.ins.length) (hu : (usesF (b.ins.getD j inn0)).contains r = false) (hd : defF (b.ins.getD j inn0) ≠ r) : wl b r (b.ins.drop j) = wl b r (b.ins.drop (j + 1)) := by
  rw [drop_cons h]
  show (if _ then (1 : Int) else if _ then 2 else wl b r (b.ins.drop (j + 1))) = _
  rw [if_neg (by rw [hu]; decide), if_neg hd]
theorem wl_val (b : Bk) (r : Int) : ∀ is, wl b r is = 0 ∨ wl b r is = 1 ∨ wl b r is = 2
  | [] => by unfold wl; split <;> simp
  | i :: is => by
    unfold wl
    split
    · simp
    · split
      · simp
      · exact wl_val b r is
theorem wl_set (b : Bk) (r : Int) : ∀ is, (∀ i ∈ is, defF i ≠ r) → wl b r is = 0 ∨ wl b r is = 1
  | [], _ => by unfold wl; split <;> simp
  | i :: is, h => by
    unfold wl
    split
    · simp
    · rw [if_neg (h i (by simp))]
      exact wl_set b r is fun i' hi => h i' (by simp [hi])
theorem wl_two (b : Bk) (r : Int) : ∀ is, wl b r is = 0 → ∀ i ∈ is, defF i ≠ r
  | [], _ => fun i hi => by cases hi
  | i :: is, h => by
    unfold wl at h
    split at h
    · cases h
    · split at h
      · cases h
      · rename_i h2
        intro i' hi
        rcases List.mem_cons.1 hi with rfl | hi
        · exact h2
        · exact wl_two b r is h i' hi
theorem mem_end (b : Bk) (r : Int) : r ∈ endR b ↔ (b.en = 2 ∨ b.en = 3) ∧ b.a = r := by
  unfold endR
  split
  · rename_i h
    rw [List.mem_singleton]
    exact ⟨fun e => ⟨h, e.symm⟩, fun e => e.2.symm⟩
  · rename_i h
    exact iff_of_false (fun q => by cases q) (fun q => h q.1)
theorem fr_len (b : Bk) (m : Nat) (is : List Inn) : (is.foldr (fun i l => passI l i) (endRow b m)).length = m := by
  induction is with
  | nil => exact endRow_len _ _
  | cons i is ih => show (passL _ _ _).length = m; rw [passL_len]; exact ih
theorem wl_one (b : Bk) (m q : Nat) (hq : q < m) : ∀ is : List Inn, (is.foldr (fun i l => passI l i) (endRow b m)).getD q false = true ↔ wl b (q : Int) is = 1
  | [] => by
    show (endRow b m).getD q false = true ↔ _
    rw [endRow_get b m q hq, mem_end, wl_end]
    split
    · rename_i h; exact iff_of_true h rfl
    · rename_i h; exact iff_of_false h (by decide)
  | i :: is => by
    show (passI (is.foldr (fun i l => passI l i) (endRow b m)) i).getD q false = true ↔ _
    rw [passI_get _ _ _ (by rw [fr_len]; exact hq), wl_one b m q hq is]
    have e : wl b (q : Int) (i :: is) = if (usesF i).contains (q : Int) = true then 1 else if defF i = (q : Int) then 2 else wl b (q : Int) is := rfl
    rw [e]
    by_cases h : (usesF i).contains (q : Int) = true
    · rw [if_pos h]; exact iff_of_true (.inl (List.contains_iff_mem.1 h)) rfl
    · rw [if_neg h]
      have h' : (q : Int) ∉ usesF i := fun z => h (List.contains_iff_mem.2 z)
      by_cases hd : defF i = (q : Int)
      · rw [if_pos hd]
        exact iff_of_false (fun z => z.elim h' (fun z => z.1 hd)) (by decide)
      · rw [if_neg hd]
        exact ⟨fun z => z.elim (fun z => absurd z h') (fun z => z.2), fun z => .inr ⟨hd, z⟩⟩
theorem gen_one (b : Bk) (m q : Nat) (hq : q < m) : (genRow b m).getD q false = true ↔ wl b (q : Int) b.ins = 1 := by
  rw [← wl_one b m q hq b.ins]
  unfold genRow
  rw [List.foldl_reverse]
/-- Live where a block begins, by all ways on. -/
inductive DL (bs : List Bk) (r : Int) : Nat → Prop
  | gen {b : Nat} : b < bs.length → wl (bs.getD b bk0) r (bs.getD b bk0).ins = 1 → DL bs r b
  | step {b s : Nat} : b < bs.length → wl (bs.getD b bk0) r (bs.getD b bk0).ins = 0 → (s : Int) ∈ outsF bs b → DL bs r s → DL bs r b
def LvP (bs : List Bk) (r : Int) (n kf : Nat) : Prop := wl (bs.getD n bk0) r ((bs.getD n bk0).ins.drop kf) = 1 ∨ wl (bs.getD n bk0) r ((bs.getD n bk0).ins.drop kf) = 0 ∧ ∃ s : Nat, (s : Int) ∈ outsF bs n ∧ DL bs r s
theorem mem_preds {bs : List Bk} {b s : Nat} (hb : b < bs.length) : (b : Int) ∈ predsN bs (s : Int) bs.length ↔ (s : Int) ∈ outsF bs b := by
  unfold predsN
  rw [List.mem_map]
  constructor
  · rintro ⟨i, hi, e⟩
    rw [List.mem_filter] at hi
    obtain rfl : i = b := by omega
    exact List.contains_iff_mem.1 hi.2
  · intro h
    exact ⟨b, List.mem_filter.2 ⟨List.mem_range.2 hb, List.contains_iff_mem.2 h⟩, rfl⟩
theorem preds_lastY {bs : List Bk} {j : Nat} (hj : j < bs.length) : (predsJ bs bs.length 0).getD j [] = predsN bs (j : Int) bs.length := by
  rw [predsJ_get bs _ _ _ hj]
  simp
section
variable {bs : List Bk} {m : Nat}
theorem il0_bit {b r : Nat} (hb : b < bs.length) (hr : r < m) : bit (tabG (fun k => genRow (bs.getD k bk0) m) (List.replicate m false) bs.length bs.length) b r = true ↔ wl (bs.getD b bk0) (r : Int) (bs.getD b bk0).ins = 1 := by
  unfold bit
  rw [tabG_get b hb, if_pos hb]
  exact gen_one _ _ _ hr
theorem li_dl {b r : Nat} (hr : r < m) (h : LI bs.length m (predsJ bs bs.length 0) (tabG (fun k => setRow (bs.getD k bk0)) [] bs.length bs.length) (tabG (fun k => genRow (bs.getD k bk0) m) (List.replicate m false) bs.length bs.length) b r) : DL bs (r : Int) b := by
  induction h with
  | gen hb hr h => exact .gen hb ((il0_bit hb hr).1 h)
  | step hs hL hp hb hn ih =>
    rw [preds_lastY hs, mem_preds hb] at hp
    rw [tabG_get _ hb, if_pos hb] at hn
    rcases wl_set (bs.getD _ bk0) _ (bs.getD _ bk0).ins (fun i hi e => hn ((setRow_mem _ _).2 ⟨i, hi, e⟩)) with z | z
    · exact .step hb z hp (ih hr)
    · exact .gen hb z
theorem dl_li {b r : Nat} (hr : r < m) (h : DL bs (r : Int) b) : LI bs.length m (predsJ bs bs.length 0) (tabG (fun k => setRow (bs.getD k bk0)) [] bs.length bs.length) (tabG (fun k => genRow (bs.getD k bk0) m) (List.replicate m false) bs.length bs.length) b r := by
  induction h with
  | gen hb h => exact .gen hb hr ((il0_bit hb hr).2 h)
  | step hb hz ho hd ih =>
    have hs := outsF_in ho
    refine .step (s := _) (by omega) ih ?_ hb ?_
    · rw [preds_lastY (by omega), mem_preds hb]; exact ho
    · rw [tabG_get _ hb, if_pos hb]
      intro q
      obtain ⟨i, hi, e⟩ := (setRow_mem _ _).1 q
      exact wl_two _ _ _ hz i hi e
theorem li_lv {n r : Nat} (hn : n < bs.length) (hr : r < m) : LI bs.length m (predsJ bs bs.length 0) (tabG (fun k => setRow (bs.getD k bk0)) [] bs.length bs.length) (tabG (fun k => genRow (bs.getD k bk0) m) (List.replicate m false) bs.length bs.length) n r ↔ LvP bs (r : Int) n 0 := by
  unfold LvP
  rw [List.drop_zero]
  constructor
  · intro h
    cases li_dl hr h with
    | gen _ h => exact .inl h
    | step _ hz ho hd => exact .inr ⟨hz, _, ho, hd⟩
  · rintro (h | ⟨hz, s, ho, hd⟩)
    · exact dl_li hr (.gen hn h)
    · exact dl_li hr (.step hn hz ho hd)
theorem lo_lv {n r : Nat} (hn : n < bs.length) (hr : r < m) : LO bs.length m (predsJ bs bs.length 0) (tabG (fun k => setRow (bs.getD k bk0)) [] bs.length bs.length) (tabG (fun k => genRow (bs.getD k bk0) m) (List.replicate m false) bs.length bs.length) (tabG (fun k => endRow (bs.getD k bk0) m) (List.replicate m false) bs.length bs.length) n r ↔ LvP bs (r : Int) n (bs.getD n bk0).ins.length := by
  unfold LvP LO bit
  rw [List.drop_length, tabG_get n hn, if_pos hn, endRow_get _ _ _ hr, mem_end, wl_end]
  constructor
  · rintro (h | ⟨s, hs, hL, hp⟩)
    · rw [if_pos h]; exact .inl rfl
    · rw [preds_lastY hs, mem_preds hn] at hp
      by_cases h : ((bs.getD n bk0).en = 2 ∨ (bs.getD n bk0).en = 3) ∧ (bs.getD n bk0).a = (r : Int)
      · rw [if_pos h]; exact .inl rfl
      · rw [if_neg h]; exact .inr ⟨rfl, s, hp, li_dl hr hL⟩
  · rintro (h | ⟨hz, s, ho, hd⟩)
    · refine .inl ?_
      by_cases q : ((bs.getD n bk0).en = 2 ∨ (bs.getD n bk0).en = 3) ∧ (bs.getD n bk0).a = (r : Int)
      · exact q
      · rw [if_neg q] at h; cases h
    · have hs := outsF_in ho
      exact .inr ⟨s, by omega, dl_li hr hd, by rw [preds_lastY (by omega), mem_preds hn]; exact ho⟩
end
theorem usesF_len (i : Inn) : (usesF i).length ≤ i.args.length + 2 := by
  unfold usesF
  refine Nat.le_trans (List.length_filter_le _ _) ?_
  simp only [List.length_append]
  have h1 : (if hA i.x0 = true then [i.x2] else []).length ≤ 1 := by split <;> simp
  have h2 : (if hB i.x0 = true then [i.x3] else []).length ≤ 1 := by split <;> simp
  have h3 : (if hR i.x0 = true then i.args else []).length ≤ i.args.length := by split <;> simp
  omega
set_option maxRecDepth 100000 in
theorem r_has (ga : Option Addr) (c : Nat) (l : List Int) (x : Int) (hll : l.length ≤ 1000000) (w : World) (hl : IntsAt w ga l) : Calls Try.prog 49 #[.slice ga l.length c, .int .i64 x] w fun e w' => e = .returned (.bool (l.contains x)) ∧ Fr (fun _ => False) w w' := by
  have ff := Fr.refl (fun _ => False) w
  refine calls_tw Try.func49 rfl rfl (Nat.le_of_ble_eq_true rfl) ?_
  refine TW.sreg ?_
  refine WL.op rfl rfl rfl (Go.Proofs.Ytobibplilbchfaa.W.quiet_assign rfl rfl) ?_
  refine WL.nil ?_
  refine TW.seq ?_
  refine TW.sreg ?_
  refine WL.op rfl rfl rfl (Go.Proofs.Ytobibplilbchfaa.W.quiet_assign rfl rfl) ?_
  refine WL.nil ?_
  refine TW.block ?_
  refine O.loopG (n := l.length) (fun a _ => (intOf (a.tmps.getD 5 undef)).toNat) (fun j a W => Kn Try.f49.ntmps [(0, .slice ga l.length c), (1, .int .i64 x), (5, .int .i64 (j : Int))] a ∧ Fr (fun _ => False) w W ∧ ∀ k, k < j → l.getD k 0 ≠ x) (fun j a W h => O.slotv h.1 rfl) 0 (Nat.zero_le _) (fun a k => ⟨(by (repeat (refine Kn.cons k rfl ?_)); exact k.base), ff, fun k hk => absurd hk (by omega)⟩) ?_
  rintro j a wl hj ⟨k, ff, hle⟩
  refine TW.app (s := [(0, .slice ga l.length c), (1, .int .i64 x), (5, .int .i64 (j : Int))]) ?_ k
  refine TW.seq ?_
  refine TW.sreg ?_
  refine WL.op rfl rfl rfl (Go.Proofs.Ytobibplilbchfaa.W.quiet_move rfl rfl) ?_
  refine WL.op rfl rfl rfl (Go.Proofs.Ytobibplilbchfaa.W.quiet_move rfl rfl) ?_
  refine O.len rfl rfl rfl rfl rfl (qn_s_int _ _ _ _) ?_
  refine WL.op rfl rfl rfl (Go.Proofs.Ytobibplilbchfaa.W.quiet_bin rfl rfl rfl (fun W => qb_lss_int W _ _ _ _)) ?_
  refine O.split (fun hbj => ?_) (fun hbj => ?_)
  · skip
    have hj2 : j < l.length := by have := of_decide_eq_true hbj; omega
    obtain ⟨g, o, rfl, hc⟩ := (hl.fr ff) j hj2
    refine WL.nil ?_
    refine TW.cond rfl (fun _ => ?_) (fun hb => by cases hb)
    refine TW.skip ?_
    refine TW.seq ?_
    refine TW.block ?_
    refine TW.sreg ?_
    refine WL.op rfl rfl rfl (Go.Proofs.Ytobibplilbchfaa.W.quiet_move rfl rfl) ?_
    refine WL.op rfl rfl rfl (Go.Proofs.Ytobibplilbchfaa.W.quiet_move rfl rfl) ?_
    refine O.ixa rfl rfl rfl rfl rfl rfl (qi_s_int _ _ _ _ _ _ (by omega)) ?_
    refine WL.ld rfl rfl rfl rfl rfl (ql_int _ _ _ hc) ?_
    refine WL.op rfl rfl rfl (Go.Proofs.Ytobibplilbchfaa.W.quiet_move rfl rfl) ?_
    refine WL.op rfl rfl rfl (Go.Proofs.Ytobibplilbchfaa.W.quiet_bin rfl rfl rfl (fun W => qb_eql_int W _ _ _ _)) ?_
    refine O.split (fun h1 => ?_) (fun h1 => ?_)
    · skip
      refine WL.nil ?_
      refine TW.cond rfl (fun _ => ?_) (fun hb => by cases hb)
      refine TW.sreg ?_
      refine WL.op rfl rfl rfl (Go.Proofs.Ytobibplilbchfaa.W.quiet_assign rfl rfl) ?_
      refine WL.nil ?_
      refine TW.rt ?_
      refine Xw.rblk ?_
      refine Xw.thn (by simp) ?_
      refine Xw.thn (by simp) ?_
      refine Xw.rblk ?_
      refine Xw.thn (by simp) ?_
      refine bodyw_ret rfl rfl ?_
      exact ⟨by rw [contains_yes hj2 (by simpa using h1)], ff⟩
    · skip
      refine WL.nil ?_
      refine TW.cond rfl (fun hb => by cases hb) (fun _ => ?_)
      refine TW.skipx ?_
      refine Xw.nblk ?_
      refine Xw.nrm ?_
      refine TW.reg ?_
      refine WL.op rfl rfl rfl (Go.Proofs.Ytobibplilbchfaa.W.quiet_move rfl rfl) ?_
      refine WL.op rfl rfl rfl (Go.Proofs.Ytobibplilbchfaa.W.quiet_bin rfl rfl rfl (fun W => qb_add_int W _ _ _ _ (by omega) (by omega))) ?_
      refine WL.op rfl rfl rfl (Go.Proofs.Ytobibplilbchfaa.W.quiet_assign rfl rfl) ?_
      refine WL.end ?_
      refine Xw.any (fun a k => ?_)
      refine ⟨j + 1, by omega, by omega, (by (repeat (refine Kn.cons k rfl ?_)); exact k.base), ff, fun q hq => ?_⟩
      by_cases e : q = j
      · subst e; simpa using h1
      · exact hle q (by omega)
  · skip
    refine WL.nil ?_
    refine TW.cond rfl (fun hb => by cases hb) (fun _ => ?_)
    refine TW.exit ?_
    refine Xw.thn (by simp) ?_
    refine Xw.thn (by simp) ?_
    refine Xw.hit ?_
    refine Xw.nrm ?_
    refine TW.sreg ?_
    refine WL.op rfl rfl rfl (Go.Proofs.Ytobibplilbchfaa.W.quiet_assign rfl rfl) ?_
    refine WL.nil ?_
    refine TW.rt ?_
    refine bodyw_ret rfl rfl ?_
    have hje : j = l.length := by have := of_decide_eq_false hbj; omega
    subst hje
    exact ⟨by rw [contains_no hle], ff⟩
set_option maxRecDepth 100000 in
theorem r_within (b : Bk) (ia : Option Addr) (ic : Nat) (hbl2 : b.ins.length ≤ 1000) (hins : ∀ i ∈ b.ins, i.args.length ≤ 1000) (fr : Int) (kf : Nat) (hfr : fr = (kf : Int)) (hkf : kf ≤ b.ins.length) (r : Int) (w : World) (hIL : InsL w ia b.ins) : Calls Try.prog 35 #[.agg #[.slice ia b.ins.length ic, .int .i64 b.en, .int .i64 b.a, .int .i64 b.t, .int .i64 b.el], .int .i64 fr, .int .i64 r] w fun e w' => e = .returned (.int .i64 (wl b r (b.ins.drop kf))) ∧ Fr (fun _ => False) w w' := by
  subst hfr
  have ff := Fr.refl (fun _ => False) w
  refine calls_tw Try.func35 rfl rfl (Nat.le_of_ble_eq_true rfl) ?_
  refine TW.sreg ?_
  have lw1 := ff.size
  refine O.boxR rfl rfl rfl rfl rfl (qxR_api_Block w _ _ _ _ _ _ _) ?_
  rintro wa1 ⟨fa1, bx1⟩
  replace ff := ff.trans fa1
  refine WL.op rfl rfl rfl (Go.Proofs.Ytobibplilbchfaa.W.quiet_assign rfl rfl) ?_
  refine WL.nil ?_
  refine TW.seq ?_
  refine TW.sreg ?_
  refine WL.op rfl rfl rfl (Go.Proofs.Ytobibplilbchfaa.W.quiet_move rfl rfl) ?_
  refine WL.op rfl rfl rfl (Go.Proofs.Ytobibplilbchfaa.W.quiet_assign rfl rfl) ?_
  refine WL.nil ?_
  refine TW.block ?_
  refine O.loopG (n := b.ins.length) (fun a _ => (intOf (a.tmps.getD 7 undef)).toNat) (fun j a W => Kn Try.f35.ntmps [(2, .int .i64 r), (3, .pointer (some ⟨w.heap.size, 0, none⟩)), (7, .int .i64 (j : Int))] a ∧ Fr (fun _ => False) w W ∧ Bx W w.heap.size #[.slice ia b.ins.length ic, .int .i64 b.en, .int .i64 b.a, .int .i64 b.t, .int .i64 b.el] 48 ∧ wl b r (b.ins.drop kf) = wl b r (b.ins.drop j)) (fun j a W h => O.slotv h.1 rfl) kf hkf (fun a k => ⟨(by (repeat (refine Kn.cons k rfl ?_)); exact k.base), ff, bx1, rfl⟩) ?_
  rintro j a wl hj ⟨k, ff, bx1, hw⟩
  refine TW.app (s := [(2, .int .i64 r), (3, .pointer (some ⟨w.heap.size, 0, none⟩)), (7, .int .i64 (j : Int))]) ?_ k
  refine TW.seq ?_
  refine TW.sreg ?_
  refine WL.op rfl rfl rfl (Go.Proofs.Ytobibplilbchfaa.W.quiet_move rfl rfl) ?_
  refine WL.op rfl rfl rfl (Go.Proofs.Ytobibplilbchfaa.W.quiet_field rfl rfl (fun W => (qa_api_Block_0 W _ _))) ?_
  refine WL.ld rfl rfl rfl rfl rfl (ql_s_api_Ins _ _ _ _ _ (bx1.cell (j := 0) rfl)) ?_
  refine O.len rfl rfl rfl rfl rfl (qn_s_api_Ins _ _ _ _) ?_
  refine WL.op rfl rfl rfl (Go.Proofs.Ytobibplilbchfaa.W.quiet_bin rfl rfl rfl (fun W => qb_lss_int W _ _ _ _)) ?_
  refine O.split (fun hbj => ?_) (fun hbj => ?_)
  · skip
    have hj2 : j < b.ins.length := by have := of_decide_eq_true hbj; omega
    have hal := (hins _ (getD_memI hj2))
    obtain ⟨g, o, rfl, hI⟩ := (hIL.fr ff) j hj2
    obtain ⟨k0, k1, k2, k3, k4, k5, k6, k7, k8, ⟨aa, ac, k9, hA⟩, k10⟩ := hI
    refine WL.nil ?_
    refine TW.cond rfl (fun _ => ?_) (fun hb => by cases hb)
    refine TW.skip ?_
    refine TW.seq ?_
    refine TW.block ?_
    refine TW.seq ?_
    refine TW.sreg ?_
    refine WL.op rfl rfl rfl (Go.Proofs.Ytobibplilbchfaa.W.quiet_field rfl rfl (fun W => (qa_api_Block_0 W _ _))) ?_
    refine WL.ld rfl rfl rfl rfl rfl (ql_s_api_Ins _ _ _ _ _ (bx1.cell (j := 0) rfl)) ?_
    refine WL.op rfl rfl rfl (Go.Proofs.Ytobibplilbchfaa.W.quiet_move rfl rfl) ?_
    refine O.ixa rfl rfl rfl rfl rfl rfl (qi_s_api_Ins _ _ _ _ _ _ (by omega)) ?_
    refine WL.ld rfl rfl rfl rfl rfl (ql_api_Ins _ _ _ _ _ _ _ _ _ _ _ _ _ _ k0 k1 k2 k3 k4 k5 k6 k7 k8 k9 k10) ?_
    refine WL.call (hr := r_uses (b.ins.getD j inn0) (aa, ac) hal _ hA) rfl rfl rfl rfl rfl (fun W => qk_rushlightref13_Uses W _) ?_
    rintro e w1 ⟨vu, rfl, hU, f1⟩
    refine ⟨_, rfl, ?_⟩
    replace bx1 := bx1.fr f1 id
    replace ff := ff.trans f1
    obtain ⟨ua, uc, rfl, hUa⟩ := hU.at
    have hul : (usesF (b.ins.getD j inn0)).length ≤ 1000000 := by have := usesF_len (b.ins.getD j inn0); omega
    refine WL.op rfl rfl rfl (Go.Proofs.Ytobibplilbchfaa.W.quiet_move rfl rfl) ?_
    refine WL.call (hr := r_has ua uc _ r hul _ hUa) rfl rfl rfl rfl rfl (fun W => qk_rushlightref16_has W _) ?_
    rintro e w2 ⟨rfl, f2⟩
    refine ⟨_, rfl, ?_⟩
    replace bx1 := bx1.fr f2 id
    replace ff := ff.trans f2
    refine O.split (fun h1 => ?_) (fun h1 => ?_)
    · skip
      refine WL.nil ?_
      refine TW.cond rfl (fun _ => ?_) (fun hb => by cases hb)
      refine TW.sreg ?_
      refine WL.op rfl rfl rfl (Go.Proofs.Ytobibplilbchfaa.W.quiet_assign rfl rfl) ?_
      refine WL.nil ?_
      refine TW.rt ?_
      refine Xw.thn (by simp) ?_
      refine Xw.rblk ?_
      refine Xw.thn (by simp) ?_
      refine Xw.thn (by simp) ?_
      refine Xw.rblk ?_
      refine Xw.thn (by simp) ?_
      refine bodyw_ret rfl rfl ?_
      exact ⟨by rw [hw, wl_u hj2 h1], ff⟩
    · skip
      obtain ⟨g2, o2, e9, hI2⟩ := (hIL.fr ff) j hj2
      cases e9
      obtain ⟨k0, k1, k2, k3, k4, k5, k6, k7, k8, ⟨aa2, ac2, k9, hA2⟩, k10⟩ := hI2
      refine WL.nil ?_
      refine TW.cond rfl (fun hb => by cases hb) (fun _ => ?_)
      refine TW.skip ?_
      refine TW.sreg ?_
      refine WL.op rfl rfl rfl (Go.Proofs.Ytobibplilbchfaa.W.quiet_field rfl rfl (fun W => (qa_api_Block_0 W _ _))) ?_
      refine WL.ld rfl rfl rfl rfl rfl (ql_s_api_Ins _ _ _ _ _ (bx1.cell (j := 0) rfl)) ?_
      refine WL.op rfl rfl rfl (Go.Proofs.Ytobibplilbchfaa.W.quiet_move rfl rfl) ?_
      refine O.ixa rfl rfl rfl rfl rfl rfl (qi_s_api_Ins _ _ _ _ _ _ (by omega)) ?_
      refine WL.ld rfl rfl rfl rfl rfl (ql_api_Ins _ _ _ _ _ _ _ _ _ _ _ _ _ _ k0 k1 k2 k3 k4 k5 k6 k7 k8 k9 k10) ?_
      refine WL.call (hr := r_def (b.ins.getD j inn0) (aa2, ac2) _) rfl rfl rfl rfl rfl (fun W => qk_rushlightref13_Def W _) ?_
      rintro e w3 ⟨rfl, f3⟩
      refine ⟨_, rfl, ?_⟩
      replace bx1 := bx1.fr f3 id
      replace ff := ff.trans f3
      refine WL.op rfl rfl rfl (Go.Proofs.Ytobibplilbchfaa.W.quiet_move rfl rfl) ?_
      refine WL.op rfl rfl rfl (Go.Proofs.Ytobibplilbchfaa.W.quiet_bin rfl rfl rfl (fun W => qb_eql_int W _ _ _ _)) ?_
      refine O.split (fun h2 => ?_) (fun h2 => ?_)
      · skip
        refine WL.nil ?_
        refine TW.cond rfl (fun _ => ?_) (fun hb => by cases hb)
        refine TW.sreg ?_
        refine WL.op rfl rfl rfl (Go.Proofs.Ytobibplilbchfaa.W.quiet_assign rfl rfl) ?_
        refine WL.nil ?_
        refine TW.rt ?_
        refine Xw.rblk ?_
        refine Xw.thn (by simp) ?_
        refine Xw.thn (by simp) ?_
        refine Xw.rblk ?_
        refine Xw.thn (by simp) ?_
        refine bodyw_ret rfl rfl ?_
        exact ⟨by rw [hw, wl_d hj2 h1 (by simpa using h2)], ff⟩
      · skip
        refine WL.nil ?_
        refine TW.cond rfl (fun hb => by cases hb) (fun _ => ?_)
        refine TW.skipx ?_
        refine Xw.nblk ?_
        refine Xw.nrm ?_
        refine TW.reg ?_
        refine WL.op rfl rfl rfl (Go.Proofs.Ytobibplilbchfaa.W.quiet_move rfl rfl) ?_
        refine WL.op rfl rfl rfl (Go.Proofs.Ytobibplilbchfaa.W.quiet_bin rfl rfl rfl (fun W => qb_add_int W _ _ _ _ (by omega) (by omega))) ?_
        refine WL.op rfl rfl rfl (Go.Proofs.Ytobibplilbchfaa.W.quiet_assign rfl rfl) ?_
        refine WL.end ?_
        refine Xw.any (fun a k => ?_)
        exact ⟨j + 1, by omega, by omega, (by (repeat (refine Kn.cons k rfl ?_)); exact k.base), ff, bx1, by rw [hw, wl_n hj2 h1 (by simpa using h2)]⟩
  · skip
    have hje : j = b.ins.length := by have := of_decide_eq_false hbj; omega
    subst hje
    refine WL.nil ?_
    refine TW.cond rfl (fun hb => by cases hb) (fun _ => ?_)
    refine TW.exit ?_
    refine Xw.thn (by simp) ?_
    refine Xw.thn (by simp) ?_
    refine Xw.hit ?_
    refine Xw.nrm ?_
    refine TW.seq ?_
    refine TW.sreg ?_
    refine WL.op rfl rfl rfl (Go.Proofs.Ytobibplilbchfaa.W.quiet_field rfl rfl (fun W => (qa_api_Block_1 W _ _))) ?_
    refine WL.ld rfl rfl rfl rfl rfl (ql_int _ _ _ (bx1.cell (j := 1) rfl)) ?_
    refine WL.op rfl rfl rfl (Go.Proofs.Ytobibplilbchfaa.W.quiet_bin rfl rfl rfl (fun W => qb_eql_int W _ _ _ _)) ?_
    refine O.split (fun h2 => ?_) (fun h2 => ?_)
    · skip
      refine WL.op rfl rfl rfl (Go.Proofs.Ytobibplilbchfaa.W.quiet_move rfl rfl) ?_
      refine WL.skip rfl rfl rfl ?_
      refine WL.skip rfl rfl rfl ?_
      refine WL.skip rfl rfl rfl ?_
      refine WL.op rfl rfl rfl (Go.Proofs.Ytobibplilbchfaa.W.quiet_pick rfl rfl rfl) ?_
      refine WL.op rfl rfl rfl (Go.Proofs.Ytobibplilbchfaa.W.quiet_move rfl rfl) ?_
      refine WL.op rfl rfl rfl (Go.Proofs.Ytobibplilbchfaa.W.quiet_field rfl rfl (fun W => (qa_api_Block_2 W _ _))) ?_
      refine WL.ld rfl rfl rfl rfl rfl (ql_int _ _ _ (bx1.cell (j := 2) rfl)) ?_
      refine WL.op rfl rfl rfl (Go.Proofs.Ytobibplilbchfaa.W.quiet_move rfl rfl) ?_
      refine WL.op rfl rfl rfl (Go.Proofs.Ytobibplilbchfaa.W.quiet_bin rfl rfl rfl (fun W => qb_eql_int W _ _ _ _)) ?_
      refine O.split (fun ha => ?_) (fun ha => ?_)
      · skip
        refine WL.op rfl rfl rfl (Go.Proofs.Ytobibplilbchfaa.W.quiet_pick rfl rfl rfl) ?_
        refine WL.nil ?_
        refine TW.cond rfl (fun _ => ?_) (fun hb => by cases hb)
        refine TW.sreg ?_
        refine WL.op rfl rfl rfl (Go.Proofs.Ytobibplilbchfaa.W.quiet_assign rfl rfl) ?_
        refine WL.nil ?_
        refine TW.rt ?_
        refine Xw.thn (by simp) ?_
        refine bodyw_ret rfl rfl ?_
        exact ⟨by rw [hw, List.drop_length, wl_end, if_pos ⟨.inl (by simpa using h2), by simpa using ha⟩], ff⟩
      · skip
        refine WL.op rfl rfl rfl (Go.Proofs.Ytobibplilbchfaa.W.quiet_pick rfl rfl rfl) ?_
        refine WL.nil ?_
        refine TW.cond rfl (fun hb => by cases hb) (fun _ => ?_)
        refine TW.skip ?_
        refine TW.sreg ?_
        refine WL.op rfl rfl rfl (Go.Proofs.Ytobibplilbchfaa.W.quiet_assign rfl rfl) ?_
        refine WL.nil ?_
        refine TW.rt ?_
        refine bodyw_ret rfl rfl ?_
        exact ⟨by rw [hw, List.drop_length, wl_end, if_neg (fun q => absurd q.2 (by simpa using ha))], ff⟩
    · skip
      refine WL.op rfl rfl rfl (Go.Proofs.Ytobibplilbchfaa.W.quiet_move rfl rfl) ?_
      refine WL.op rfl rfl rfl (Go.Proofs.Ytobibplilbchfaa.W.quiet_field rfl rfl (fun W => (qa_api_Block_1 W _ _))) ?_
      refine WL.ld rfl rfl rfl rfl rfl (ql_int _ _ _ (bx1.cell (j := 1) rfl)) ?_
      refine WL.op rfl rfl rfl (Go.Proofs.Ytobibplilbchfaa.W.quiet_bin rfl rfl rfl (fun W => qb_eql_int W _ _ _ _)) ?_
      refine O.split (fun h3 => ?_) (fun h3 => ?_)
      · skip
        refine WL.op rfl rfl rfl (Go.Proofs.Ytobibplilbchfaa.W.quiet_pick rfl rfl rfl) ?_
        refine WL.op rfl rfl rfl (Go.Proofs.Ytobibplilbchfaa.W.quiet_move rfl rfl) ?_
        refine WL.op rfl rfl rfl (Go.Proofs.Ytobibplilbchfaa.W.quiet_field rfl rfl (fun W => (qa_api_Block_2 W _ _))) ?_
        refine WL.ld rfl rfl rfl rfl rfl (ql_int _ _ _ (bx1.cell (j := 2) rfl)) ?_
        refine WL.op rfl rfl rfl (Go.Proofs.Ytobibplilbchfaa.W.quiet_move rfl rfl) ?_
        refine WL.op rfl rfl rfl (Go.Proofs.Ytobibplilbchfaa.W.quiet_bin rfl rfl rfl (fun W => qb_eql_int W _ _ _ _)) ?_
        refine O.split (fun ha => ?_) (fun ha => ?_)
        · skip
          refine WL.op rfl rfl rfl (Go.Proofs.Ytobibplilbchfaa.W.quiet_pick rfl rfl rfl) ?_
          refine WL.nil ?_
          refine TW.cond rfl (fun _ => ?_) (fun hb => by cases hb)
          refine TW.sreg ?_
          refine WL.op rfl rfl rfl (Go.Proofs.Ytobibplilbchfaa.W.quiet_assign rfl rfl) ?_
          refine WL.nil ?_
          refine TW.rt ?_
          refine Xw.thn (by simp) ?_
          refine bodyw_ret rfl rfl ?_
          exact ⟨by rw [hw, List.drop_length, wl_end, if_pos ⟨.inr (by simpa using h3), by simpa using ha⟩], ff⟩
        · skip
          refine WL.op rfl rfl rfl (Go.Proofs.Ytobibplilbchfaa.W.quiet_pick rfl rfl rfl) ?_
          refine WL.nil ?_
          refine TW.cond rfl (fun hb => by cases hb) (fun _ => ?_)
          refine TW.skip ?_
          refine TW.sreg ?_
          refine WL.op rfl rfl rfl (Go.Proofs.Ytobibplilbchfaa.W.quiet_assign rfl rfl) ?_
          refine WL.nil ?_
          refine TW.rt ?_
          refine bodyw_ret rfl rfl ?_
          exact ⟨by rw [hw, List.drop_length, wl_end, if_neg (fun q => absurd q.2 (by simpa using ha))], ff⟩
      · skip
        refine WL.op rfl rfl rfl (Go.Proofs.Ytobibplilbchfaa.W.quiet_pick rfl rfl rfl) ?_
        refine WL.op rfl rfl rfl (Go.Proofs.Ytobibplilbchfaa.W.quiet_move rfl rfl) ?_
        refine WL.skip rfl rfl rfl ?_
        refine WL.skip rfl rfl rfl ?_
        refine WL.skip rfl rfl rfl ?_
        refine WL.skip rfl rfl rfl ?_
        refine WL.op rfl rfl rfl (Go.Proofs.Ytobibplilbchfaa.W.quiet_pick rfl rfl rfl) ?_
        refine WL.nil ?_
        refine TW.cond rfl (fun hb => by cases hb) (fun _ => ?_)
        refine TW.skip ?_
        refine TW.sreg ?_
        refine WL.op rfl rfl rfl (Go.Proofs.Ytobibplilbchfaa.W.quiet_assign rfl rfl) ?_
        refine WL.nil ?_
        refine TW.rt ?_
        refine bodyw_ret rfl rfl ?_
        exact ⟨by rw [hw, List.drop_length, wl_end, if_neg (fun q => q.1.elim (by simpa using h2) (by simpa using h3))], ff⟩
end Go.Proofs.Ytobibplilbchfaa
