/-
  Flow (layer 16): which blocks lead where.
-/
import Derived.Test.YtobibplilbchfaaFlK
import Derived.Test.YtobibplilbchfaaFlI
namespace Go.Proofs.Ytobibplilbchfaa
open Go.RowKit
set_option linter.unusedVariables false
set_option linter.unusedSimpArgs false
set_option linter.unnecessarySimpa false
theorem qi_s_s_int (w : World) (b o n c j : Nat) (hj : j < n) : (Instr.indexAt 28 (.slice (some ⟨b, o, none⟩) n c) (.int .i64 (j : Int))).run Try.prog w = .ok (.pointer (some ⟨b, o + j, none⟩)) w := by
  have h : (j : Int) < (n : Int) := by omega
  simp [go_sem, h, hj]
/-- Rows of a call's own behind a row of their heads. -/
def sC (x : Value) : List Value := [x]
theorem sC_len (x : Value) : (sC x).length = 1 := rfl
def nilS : Value := .slice none 0 0
structure Tbl {α : Type} (B : Nat) (te ts : TypeId) (f : α → List Value) (w : World) (S n : Nat) (vs : List Value) (xss : List (List α)) : Prop where
  hs : Row B ts 1 sC w (.slice (some ⟨S, 0, none⟩) n n) vs
  hl : vs.length = n
  hx : xss.length = n
  hr : ∀ k, k < n → Row B te 1 f w (vs.getD k nilS) (xss.getD k [])
  ap : ∀ j k, j < n → k < n → j ≠ k → ∀ q, (vs.getD j nilS).ownBlock = some q → (vs.getD k nilS).ownBlock ≠ some q
theorem Tbl.fr {α : Type} {B : Nat} {te ts : TypeId} {f : α → List Value} {w w' : World} {S n : Nat} {vs : List Value} {xss : List (List α)} {F : Nat → Prop} (h : Tbl B te ts f w S n vs xss) (hf : Fr F w w') (hS : ¬F S) (hn : ∀ k, k < n → ∀ q, (vs.getD k nilS).ownBlock = some q → ¬F q) : Tbl B te ts f w' S n vs xss :=
  ⟨h.hs.fr hf (fun q e => by cases e; exact hS), h.hl, h.hx, fun k hk => (h.hr k hk).fr hf (hn k hk), h.ap⟩
theorem Tbl.fr0 {α : Type} {B : Nat} {te ts : TypeId} {f : α → List Value} {w w' : World} {S n : Nat} {vs : List Value} {xss : List (List α)} (h : Tbl B te ts f w S n vs xss) (hf : Fr (fun _ => False) w w') : Tbl B te ts f w' S n vs xss := h.fr hf id (fun _ _ _ _ => id)
theorem Tbl.cell {α : Type} {B : Nat} {te ts : TypeId} {f : α → List Value} {w : World} {S n : Nat} {vs : List Value} {xss : List (List α)} (h : Tbl B te ts f w S n vs xss) {k : Nat} (hk : k < n) : w.cell? ⟨S, 0 + k, none⟩ = some (vs.getD k nilS) :=
  Row.cell sC_len h.hs (k := k) (x := vs.getD k nilS) (by rw [List.getD_eq_getElem?_getD, List.getElem?_eq_getElem (by rw [h.hl]; exact hk)]; rfl) (j := 0) (u := vs.getD k nilS) (by simp [sC]) (by omega)
theorem getD_setV {α : Type} (l : List α) (k j : Nat) (x d : α) (hk : k < l.length) : (l.set k x).getD j d = if j = k then x else l.getD j d := by
  rw [List.getD_eq_getElem?_getD, List.getD_eq_getElem?_getD, List.getElem?_set]
  by_cases q : k = j
  · subst q; rw [if_pos rfl, if_pos rfl, if_pos hk]; rfl
  · rw [if_neg q, if_neg (fun e => q e.symm)]
theorem Tbl.put {α : Type} {B : Nat} {te ts : TypeId} {f : α → List Value} {w w2 : World} {S n : Nat} {vs : List Value} {xss : List (List α)} (hne : te ≠ ts) (hst : ∀ (w : World) (u : Value) (a : Option Addr) (m c : Nat) (d : Addr), w.cell? d = some u → w.frozen? d = false → (Instr.storeAt ts (.pointer (some d)) (.slice a m c)).run Try.prog w = .ok () (w.setCell d (.slice a m c))) (h : Tbl B te ts f w S n vs xss) {k : Nat} (hk : k < n) {v' : Value} {ys : List α} (hr2 : Row B te 1 f w2 v' ys) (hF : Fr (fun q => (vs.getD k nilS).ownBlock = some q) w w2) (ho : ∀ q, v'.ownBlock = some q → (vs.getD k nilS).ownBlock = some q ∨ w.heap.size ≤ q) :
    ∃ w3, (Instr.storeAt ts (.pointer (some ⟨S, 0 + k, none⟩)) v').run Try.prog w2 = .ok () w3 ∧ (Tbl B te ts f w3 S n (vs.set k v') (xss.set k ys) ∧ Fr (fun q => q = S) w2 w3) := by
  obtain ⟨cS, hcS⟩ := h.hs.typ S rfl
  have hSn : ∀ j, j < n → (vs.getD j nilS).ownBlock ≠ some S := fun j hj => (h.hr j hj).apart_typ hcS hne
  have h2 : Row B ts 1 sC w2 (.slice (some ⟨S, 0, none⟩) n n) vs := h.hs.fr hF (fun q e hq => by cases e; exact hSn k hk hq)
  have hc2 : w2.cell? ⟨S, 0 + k, none⟩ = some (vs.getD k nilS) := hF.cell (h.cell hk) (hSn k hk)
  have hv'S : v'.ownBlock ≠ some S := by
    obtain ⟨c2, hc2⟩ := h2.typ S rfl
    exact hr2.apart_typ hc2 hne
  obtain ⟨a, c, rfl⟩ := hr2.form
  have hkl : k < vs.length := by rw [h.hl]; exact hk
  have hF3 : Fr (fun q => q = S) w2 (w2.setCell ⟨S, 0 + k, none⟩ (.slice a ys.length c)) := Fr.setCell _ _ _ rfl
  refine ⟨_, hst w2 _ a ys.length c _ hc2 (Row.free (q := 0 + k) h2), ⟨⟨Row.upd sC_len h2 hkl (j := 0) (by decide) (by omega) _ _ (fun _ _ => rfl), by rw [List.length_set, h.hl], by rw [List.length_set, h.hx], fun j hj => ?_, fun i j hi hj hij q h1 h3 => ?_⟩, hF3⟩⟩
  · rw [getD_setV _ _ _ _ _ hkl, getD_setV _ _ _ _ _ (by rw [h.hx]; exact hk)]
    by_cases e : j = k
    · rw [if_pos e, if_pos e]
      exact hr2.fr hF3 (fun q e q2 => hv'S (by rw [e, q2]))
    · rw [if_neg e, if_neg e]
      exact ((h.hr j hj).fr hF (fun q e1 e2 => h.ap j k hj hk e q e1 e2)).fr hF3 (fun q e q2 => hSn j hj (by rw [e, q2]))
  · rw [getD_setV _ _ _ _ _ hkl] at h1 h3
    by_cases e1 : i = k <;> by_cases e2 : j = k
    · exact hij (by rw [e1, e2])
    · rw [if_pos e1] at h1
      rw [if_neg e2] at h3
      rcases ho q h1 with h4 | h4
      · exact h.ap j k hj hk e2 q h3 h4
      · have := ((h.hr j hj).lt q h3).2; omega
    · rw [if_neg e1] at h1
      rw [if_pos e2] at h3
      rcases ho q h3 with h4 | h4
      · exact h.ap i k hi hk e1 q h1 h4
      · have := ((h.hr i hi).lt q h1).2; omega
    · rw [if_neg e1] at h1
      rw [if_neg e2] at h3
      exact h.ap i j hi hj hij q h1 h3
theorem reps_flat : ∀ n : Nat, (List.replicate n nilS).flatMap sC = List.replicate n (.slice none 0 0)
  | 0 => rfl
  | n + 1 => by rw [List.replicate_succ, List.flatMap_cons, reps_flat n, List.replicate_succ]; rfl
theorem getD_rep {α : Type} (n k : Nat) (x : α) : (List.replicate n x).getD k x = x := by
  rw [List.getD_eq_getElem?_getD, List.getElem?_replicate]
  split <;> rfl
theorem tbl_made {α : Type} {B g n : Nat} {te ts : TypeId} {f : α → List Value} {w : World} (h : Bx w g (madeCells #[.slice none 0 0] n) ts) (hb : B ≤ g) (hn : n ≤ 1000000) : Tbl B te ts f w g n (List.replicate n nilS) (List.replicate n []) := by
  refine ⟨⟨by rw [flat_len sC_len], .inr ⟨g, n, _, by simp, hb, h, by simp, by unfold maxLen; omega, by rw [size_madeCells]; omega, ?_⟩⟩, by simp, by simp, fun k hk => ?_, fun j k hj hk hjk q h1 => ?_⟩
  · rw [toList_madeCells_one, reps_flat]
    simp
  · rw [getD_rep, getD_rep]; exact Row.nil _ _ _ _ _
  · rw [getD_rep] at h1; cases h1
theorem infoSI : (Try.prog.info? 34).map (fun i => (i.zero, i.size, i.bytes)) = some (some (.slice none 0 0), 1, 24) := by kernel_rfl
theorem mk_si (n : Nat) (hn : n ≤ 1000000) (w : World) : (Instr.makeSlice 28 (.int .i64 (n : Int)) (.int .i64 (n : Int))).run Try.prog w = .ok (.slice (some ⟨w.heap.size, 0, none⟩) n n) (w.alloc (.cells (madeCells #[.slice none 0 0] n) 34)) :=
  run_make_row' 28 34 (.slice none 0 0) 24 Try.underlying28 infoSI rfl .i64 .i64 n (by omega) (by omega) w
theorem st_si (w : World) (u : Value) (a : Option Addr) (m c : Nat) (d : Addr) (h : w.cell? d = some u) (hf : w.frozen? d = false) : (Instr.storeAt 34 (.pointer (some d)) (.slice a m c)).run Try.prog w = .ok () (w.setCell d (.slice a m c)) := by simp [go_sem, h, hf]
theorem ld_si (w : World) (v : Value) (d : Addr) (h : w.cell? d = some v) (hv : ∃ a m c, v = .slice a m c) : (Instr.loadAt 34 (.pointer (some d))).run Try.prog w = .ok v w := by
  obtain ⟨a, m, c, rfl⟩ := hv
  simp [go_sem, h]
theorem outsF_nodup (bs : List Bk) (n : Nat) : (outsF bs n).Nodup := by
  unfold outsF
  refine List.Pairwise.filter _ (show (outB (bs.getD n bk0)).Nodup from ?_)
  unfold outB
  split
  · simp
  · rename_i h
    split
    · rename_i h2
      exact List.nodup_cons.2 ⟨fun q => h (.inr ⟨h2, List.mem_singleton.1 q⟩), List.nodup_cons.2 ⟨List.not_mem_nil, List.nodup_nil⟩⟩
    · simp
/-- What the rows hold when so many blocks are done and so many ends of the next. -/
def predsJ (bs : List Bk) (n j : Nat) : List (List Int) := (List.range bs.length).map fun (k : Nat) => predsN bs (k : Int) n ++ (if ((outsF bs n).take j).contains (k : Int) = true then [(n : Int)] else [])
theorem predsJ_len (bs : List Bk) (n j : Nat) : (predsJ bs n j).length = bs.length := by simp [predsJ]
theorem predsJ_get (bs : List Bk) (n j k : Nat) (hk : k < bs.length) : (predsJ bs n j).getD k [] = predsN bs (k : Int) n ++ (if ((outsF bs n).take j).contains (k : Int) = true then [(n : Int)] else []) := by
  unfold predsJ
  simp [List.getD_eq_getElem?_getD, hk]
theorem predsJ_start (bs : List Bk) : predsJ bs 0 0 = List.replicate bs.length [] := by
  refine List.ext_getElem (by simp [predsJ]) fun k h1 h2 => ?_
  simp [predsJ, predsN]
theorem predsJ_next (bs : List Bk) (n : Nat) : predsJ bs n (outsF bs n).length = predsJ bs (n + 1) 0 := by
  unfold predsJ
  refine List.map_congr_left fun k _ => ?_
  rw [List.take_length, preds_succ]
  simp
theorem predsJ_step (bs : List Bk) (n j m : Nat) (hj : j < (outsF bs n).length) (hm : (outsF bs n).getD j 0 = (m : Int)) (hmb : m < bs.length) : (predsJ bs n j).set m ((predsJ bs n j).getD m [] ++ [(n : Int)]) = predsJ bs n (j + 1) := by
  have hjm : (outsF bs n)[j] = (m : Int) := by rw [← hm, List.getD_eq_getElem?_getD, List.getElem?_eq_getElem hj]; rfl
  have htk : (outsF bs n).take (j + 1) = (outsF bs n).take j ++ [(m : Int)] := by rw [List.take_add_one, List.getElem?_eq_getElem hj, hjm]; rfl
  have hno : ((outsF bs n).take j).contains (m : Int) = false := by
    have := (outsF_nodup bs n).sublist (List.take_sublist (j + 1) _)
    rw [htk, List.nodup_append] at this
    cases q : ((outsF bs n).take j).contains (m : Int) with
    | false => rfl
    | true => exact absurd rfl (this.2.2 _ (List.contains_iff_mem.1 q) _ (List.mem_singleton.2 rfl))
  refine List.ext_getElem (by simp [predsJ_len]) fun k h1 h2 => ?_
  have hk : k < bs.length := by simpa [predsJ_len] using h2
  rw [List.getElem_set]
  have e1 : (predsJ bs n (j + 1))[k] = (predsJ bs n (j + 1)).getD k [] := by rw [List.getD_eq_getElem?_getD, List.getElem?_eq_getElem h2]; rfl
  rw [e1, predsJ_get bs n (j + 1) k hk, htk]
  by_cases q : m = k
  · subst q
    rw [if_pos rfl, predsJ_get bs n j m hk, hno]
    simp
  · rw [if_neg q]
    have e2 : (predsJ bs n j)[k]'(by rw [predsJ_len]; exact hk) = (predsJ bs n j).getD k [] := by rw [List.getD_eq_getElem?_getD, List.getElem?_eq_getElem (by rw [predsJ_len]; exact hk)]; rfl
    rw [e2, predsJ_get bs n j k hk]
    have : ((k : Int) == (m : Int)) = false := by simp; omega
    simp only [List.contains_append, List.contains_cons, List.contains_nil, this, Bool.or_false]
theorem predsJ_rlen (bs : List Bk) (n j k : Nat) (hk : k < bs.length) : ((predsJ bs n j).getD k []).length ≤ n + 1 := by
  rw [predsJ_get bs n j k hk, List.length_append]
  have := preds_len bs (k : Int) n
  split <;> simp <;> omega
set_option maxRecDepth 100000 in
theorem t_preds (nm : ByteArray) (vd : Bool) (pr R : Int) (oa : Option Addr) (on oc : Nat) (ba : Option Addr) (bs : List Bk) (bc : Nat) (hnb : bs.length ≤ 1000) (w : World) (hbl : BkL w ba bs) : Calls Try.prog 8 #[.agg #[.string nm, .bool vd, .int .i64 pr, .int .i64 R, .slice oa on oc, .slice ba bs.length bc]] w fun e w' => ∃ (S : Nat) (vs : List Value), e = .returned (.slice (some ⟨S, 0, none⟩) bs.length bs.length) ∧ Tbl S 3 34 iC w' S bs.length vs (predsJ bs bs.length 0) ∧ Fr (fun _ => False) w w' := by
  have ff := Fr.refl (fun _ => False) w
  refine calls_tw Try.func8 rfl rfl (Nat.le_of_ble_eq_true rfl) ?_
  refine TW.sreg ?_
  have lw1 := ff.size
  refine O.boxR rfl rfl rfl rfl rfl (qxR_api_Proc w _ _ _ _ _ _ _ _ _ _) ?_
  rintro wa1 ⟨fa1, bx1⟩
  replace ff := ff.trans fa1
  refine WL.op rfl rfl rfl (Go.Proofs.Ytobibplilbchfaa.W.quiet_assign rfl rfl) ?_
  refine WL.nil ?_
  refine TW.sreg ?_
  refine WL.op rfl rfl rfl (Go.Proofs.Ytobibplilbchfaa.W.quiet_field rfl rfl (fun W => (qa_api_Proc_5 W _ _))) ?_
  refine WL.ld rfl rfl rfl rfl rfl (ql_s_api_Block _ _ _ _ _ (bx1.cell (j := 5) rfl)) ?_
  refine O.len rfl rfl rfl rfl rfl (qn_s_api_Block _ _ _ _) ?_
  have lt2_bx1 := bx1.lt
  have lw2 := ff.size
  refine O.mkR rfl rfl rfl rfl rfl rfl (mk_si bs.length (by omega) _) ?_
  rintro wa2 ⟨fa2, bx2⟩
  replace bx1 := bx1.fr fa2 id
  replace ff := ff.trans fa2
  have hT : Tbl wa1.heap.size 3 34 iC wa2 wa1.heap.size bs.length (List.replicate bs.length nilS) (predsJ bs 0 0) := by rw [predsJ_start]; exact tbl_made bx2 (Nat.le_refl _) (by omega)
  have f0z := fa2.size
  refine WL.op rfl rfl rfl (Go.Proofs.Ytobibplilbchfaa.W.quiet_assign rfl rfl) ?_
  refine WL.nil ?_
  refine TW.seq ?_
  refine TW.sreg ?_
  refine WL.op rfl rfl rfl (Go.Proofs.Ytobibplilbchfaa.W.quiet_field rfl rfl (fun W => (qa_api_Proc_5 W _ _))) ?_
  refine WL.ld rfl rfl rfl rfl rfl (ql_s_api_Block _ _ _ _ _ (bx1.cell (j := 5) rfl)) ?_
  refine O.len rfl rfl rfl rfl rfl (qn_s_api_Block _ _ _ _) ?_
  refine WL.op rfl rfl rfl (Go.Proofs.Ytobibplilbchfaa.W.quiet_move rfl rfl) ?_
  refine WL.nil ?_
  refine TW.block ?_
  refine O.loopG (n := bs.length) (fun a _ => (intOf (a.tmps.getD 14 undef)).toNat) (fun j a W => ∃ (vs : List Value), Kn Try.f8.ntmps [(1, .pointer (some ⟨w.heap.size, 0, none⟩)), (3, .slice (some ⟨wa1.heap.size, 0, none⟩) bs.length bs.length), (13, .int .i64 (bs.length : Int)), (14, .int .i64 (j : Int))] a ∧ Fr (fun _ => False) w W ∧ Bx W w.heap.size #[.string nm, .bool vd, .int .i64 pr, .int .i64 R, .slice oa on oc, .slice ba bs.length bc] 25 ∧ Tbl wa1.heap.size 3 34 iC W wa1.heap.size bs.length vs (predsJ bs j 0) ∧ wa1.heap.size ≤ W.heap.size) (fun j a W h => by obtain ⟨_, h⟩ := h; exact O.slotv h.1 rfl) 0 (Nat.zero_le _) (fun a k => ⟨_, (by (repeat (refine Kn.cons k rfl ?_)); exact k.base), ff, bx1, hT, by have := f0z; omega⟩) ?_
  rintro j a wo hj ⟨vs, k, ff, bx1, hT, hz⟩
  refine TW.app (s := [(1, .pointer (some ⟨w.heap.size, 0, none⟩)), (3, .slice (some ⟨wa1.heap.size, 0, none⟩) bs.length bs.length), (13, .int .i64 (bs.length : Int)), (14, .int .i64 (j : Int))]) ?_ k
  refine TW.sreg ?_
  refine WL.op rfl rfl rfl (Go.Proofs.Ytobibplilbchfaa.W.quiet_bin rfl rfl rfl (fun W => qb_lss_int W _ _ _ _)) ?_
  refine O.split (fun hbj => ?_) (fun hbj => ?_)
  · skip
    have hj2 : j < bs.length := by have := of_decide_eq_true hbj; omega
    have hwz := ff.size
    refine WL.nil ?_
    refine TW.seq ?_
    refine TW.cond rfl (fun _ => ?_) (fun hb => by cases hb)
    refine TW.skip ?_
    refine TW.seq ?_
    refine TW.block ?_
    refine TW.sreg ?_
    refine WL.op rfl rfl rfl (Go.Proofs.Ytobibplilbchfaa.W.quiet_move rfl rfl) ?_
    refine WL.op rfl rfl rfl (Go.Proofs.Ytobibplilbchfaa.W.quiet_assign rfl rfl) ?_
    refine WL.nil ?_
    refine TW.sreg ?_
    refine WL.ld rfl rfl rfl rfl rfl (qlB_api_Proc _ _ _ _ _ _ _ _ _ _ _ _ _ bx1) ?_
    refine WL.op rfl rfl rfl (Go.Proofs.Ytobibplilbchfaa.W.quiet_move rfl rfl) ?_
    have hTl : ∀ k, k < bs.length → ∀ q, (vs.getD k nilS).ownBlock = some q → wa1.heap.size ≤ q ∧ q < wo.heap.size := fun k hk => Row.lt (hT.hr k hk)
    refine WL.call (hr := t_outs nm vd pr R oa on oc ba bs bc j hj2 _ (hbl.fr ff)) rfl rfl rfl rfl rfl (fun W => qk_flow_outs W _) ?_
    rintro e w1 ⟨v0, rfl, hO, f1⟩
    refine ⟨_, rfl, ?_⟩
    replace bx1 := bx1.fr f1 id
    replace hT := hT.fr0 f1
    replace hz := Nat.le_trans hz f1.size
    replace ff := ff.trans f1
    obtain ⟨B2, hB2⟩ : ∃ n, n = wo.heap.size := ⟨_, rfl⟩
    rw [← hB2] at hO hTl
    have hap : ∀ k, k < bs.length → ∀ q, (vs.getD k nilS).ownBlock = some q → v0.ownBlock ≠ some q := fun k hk q h1 h2 => by have := (hTl k hk q h1).2; have := (Row.lt hO q h2).1; omega
    have ho2 := outsF_len bs j
    obtain ⟨oa2, oc2, rfl, _⟩ := hO.at
    refine O.len rfl rfl rfl rfl rfl (qn_s_int _ _ _ _) ?_
    refine WL.op rfl rfl rfl (Go.Proofs.Ytobibplilbchfaa.W.quiet_move rfl rfl) ?_
    refine WL.nil ?_
    refine TW.block ?_
    refine O.loopG (n := (outsF bs j).length) (fun a _ => (intOf (a.tmps.getD 21 undef)).toNat) (fun i a W => ∃ (vs : List Value), Kn Try.f8.ntmps [(1, .pointer (some ⟨w.heap.size, 0, none⟩)), (3, .slice (some ⟨wa1.heap.size, 0, none⟩) bs.length bs.length), (4, .int .i64 (j : Int)), (13, .int .i64 (bs.length : Int)), (14, .int .i64 (j : Int)), (19, .slice oa2 (outsF bs j).length oc2), (20, .int .i64 ((outsF bs j).length : Int)), (21, .int .i64 (i : Int))] a ∧ Fr (fun _ => False) w W ∧ Bx W w.heap.size #[.string nm, .bool vd, .int .i64 pr, .int .i64 R, .slice oa on oc, .slice ba bs.length bc] 25 ∧ Tbl wa1.heap.size 3 34 iC W wa1.heap.size bs.length vs (predsJ bs j i) ∧ Ints B2 W (.slice oa2 (outsF bs j).length oc2) (outsF bs j) ∧ wa1.heap.size ≤ W.heap.size ∧ ∀ k, k < bs.length → ∀ q, (vs.getD k nilS).ownBlock = some q → (Value.slice oa2 (outsF bs j).length oc2).ownBlock ≠ some q) (fun i a W h => by obtain ⟨_, h⟩ := h; exact O.slotv h.1 rfl) 0 (Nat.zero_le _) (fun a k => ⟨vs, (by (repeat (refine Kn.cons k rfl ?_)); exact k.base), ff, bx1, hT, hO, by have := f1.size; omega, hap⟩) ?_
    rintro i a wi hj ⟨vs, k, ff, bx1, hT, hO, hz, hap⟩
    refine TW.app (s := [(1, .pointer (some ⟨w.heap.size, 0, none⟩)), (3, .slice (some ⟨wa1.heap.size, 0, none⟩) bs.length bs.length), (4, .int .i64 (j : Int)), (13, .int .i64 (bs.length : Int)), (14, .int .i64 (j : Int)), (19, .slice oa2 (outsF bs j).length oc2), (20, .int .i64 ((outsF bs j).length : Int)), (21, .int .i64 (i : Int))]) ?_ k
    refine TW.sreg ?_
    refine WL.op rfl rfl rfl (Go.Proofs.Ytobibplilbchfaa.W.quiet_bin rfl rfl rfl (fun W => qb_lss_int W _ _ _ _)) ?_
    refine O.split (fun hbi => ?_) (fun hbi => ?_)
    · skip
      have hi2 : i < (outsF bs j).length := by have := of_decide_eq_true hbi; omega
      obtain ⟨_, _, e2, hat⟩ := hO.at
      cases e2
      obtain ⟨g, o, rfl, hc⟩ := hat i hi2
      have hin := outsF_in (bs := bs) (n := j) (show (outsF bs j).getD i 0 ∈ outsF bs j by rw [List.getD_eq_getElem?_getD, List.getElem?_eq_getElem hi2]; exact List.getElem_mem hi2)
      obtain ⟨m, hm⟩ : ∃ m : Nat, (outsF bs j).getD i 0 = (m : Int) := ⟨((outsF bs j).getD i 0).toNat, by omega⟩
      rw [hm] at hc hin
      have hmb : m < bs.length := by omega
      have hrl := predsJ_rlen bs j i m hmb
      have hwz := ff.size
      have hlm := (hT.hr m hmb).lt
      refine WL.nil ?_
      refine TW.seq ?_
      refine TW.cond rfl (fun _ => ?_) (fun hb => by cases hb)
      refine TW.skip ?_
      refine TW.seq ?_
      refine TW.block ?_
      refine TW.sreg ?_
      refine O.ixa rfl rfl rfl rfl rfl rfl (qi_s_int _ _ _ _ _ _ (by omega)) ?_
      refine WL.ld rfl rfl rfl rfl rfl (ql_int _ _ _ hc) ?_
      refine WL.op rfl rfl rfl (Go.Proofs.Ytobibplilbchfaa.W.quiet_assign rfl rfl) ?_
      refine WL.nil ?_
      refine TW.reg ?_
      refine WL.op rfl rfl rfl (Go.Proofs.Ytobibplilbchfaa.W.quiet_move rfl rfl) ?_
      refine WL.op rfl rfl rfl (Go.Proofs.Ytobibplilbchfaa.W.quiet_move rfl rfl) ?_
      refine WL.op rfl rfl rfl (Go.Proofs.Ytobibplilbchfaa.W.quiet_move rfl rfl) ?_
      refine WL.op rfl rfl rfl (Go.Proofs.Ytobibplilbchfaa.W.quiet_move rfl rfl) ?_
      refine O.ixa rfl rfl rfl rfl rfl rfl (qi_s_s_int _ _ _ _ _ _ (by omega)) ?_
      refine WL.ld rfl rfl rfl rfl rfl (ld_si _ _ _ (hT.cell hmb) (by obtain ⟨a, c, e⟩ := (hT.hr m hmb).form; exact ⟨a, _, c, e⟩)) ?_
      refine WL.op rfl rfl rfl (Go.Proofs.Ytobibplilbchfaa.W.quiet_move rfl rfl) ?_
      refine O.bsl rfl rfl rfl rfl rfl (qv_s_int_1 _ _) ?_
      refine WL.append rfl rfl rfl rfl rfl rfl (Ints.app (j : Int) _ (hT.hr m hmb) (by omega) (by omega)) ?_
      rintro v2 wB ⟨hV2, hF2, ho2⟩
      -- world wB
      refine O.ixa rfl rfl rfl rfl rfl rfl (qi_s_s_int _ _ _ _ _ _ (by omega)) ?_
      refine O.storeR rfl rfl rfl rfl rfl (hT.put (by decide) st_si hmb hV2 hF2 ho2) ?_
      rintro wC ⟨hT2, hF3⟩
      replace bx1 := (bx1.fr hF2 (fun e => by have := (hlm _ e).1; omega)).fr hF3 (fun e => by omega)
      replace ff := (ff.trans' hF2 (fun q hq e => by have := (hlm q e).1; omega)).trans' hF3 (fun q hq e => by omega)
      have hOS : (Value.slice (some ⟨g, o, none⟩) (outsF bs j).length oc2).ownBlock ≠ some wa1.heap.size := by obtain ⟨cS, hcS⟩ := hT.hs.typ _ rfl; exact Row.apart_typ hO hcS (by decide)
      have hlO := (Row.lt hO)
      replace hO := Ints.fr (Ints.fr hO hF2 (fun q e e2 => hap m hmb q e2 e)) hF3 (fun q e e2 => hOS (by rw [e, e2]))
      rw [predsJ_step bs j i m hi2 hm hmb] at hT2
      have hap2 : ∀ k, k < bs.length → ∀ q, ((vs.set m v2).getD k nilS).ownBlock = some q → (Value.slice (some ⟨g, o, none⟩) (outsF bs j).length oc2).ownBlock ≠ some q := fun k hk q hq hq2 => by
        rw [getD_setV _ _ _ _ _ (by rw [hT.hl]; exact hmb)] at hq
        split at hq
        · rcases ho2 q hq with h4 | h4
          · exact hap m hmb q h4 hq2
          · have := (hlO q hq2).2; omega
        · exact hap k hk q hq hq2
      obtain ⟨vs2, hvs2⟩ : ∃ l, l = vs.set m v2 := ⟨_, rfl⟩
      rw [← hvs2] at hT2 hap2
      replace hz := Nat.le_trans hz (Nat.le_trans hF2.size hF3.size)
      refine WL.end ?_
      refine Xw.nblk ?_
      refine Xw.nrm ?_
      refine TW.reg ?_
      refine WL.op rfl rfl rfl (Go.Proofs.Ytobibplilbchfaa.W.quiet_bin rfl rfl rfl (fun W => qb_add_int W _ _ _ _ (by omega) (by omega))) ?_
      refine WL.op rfl rfl rfl (Go.Proofs.Ytobibplilbchfaa.W.quiet_move rfl rfl) ?_
      refine WL.end ?_
      refine Xw.any (fun a k => ?_)
      exact ⟨i + 1, by omega, by omega, vs2, (by (repeat (refine Kn.cons k rfl ?_)); exact k.base), ff, bx1, hT2, hO, hz, hap2⟩
    · skip
      have hie : i = (outsF bs j).length := by have := of_decide_eq_false hbi; omega
      subst hie
      rw [predsJ_next] at hT
      refine WL.nil ?_
      refine TW.seq ?_
      refine TW.cond rfl (fun hb => by cases hb) (fun _ => ?_)
      refine TW.exit ?_
      refine Xw.thn (by simp) ?_
      refine Xw.thn (by simp) ?_
      refine Xw.hit ?_
      refine Xw.nblk ?_
      refine Xw.nrm ?_
      refine TW.reg ?_
      refine WL.op rfl rfl rfl (Go.Proofs.Ytobibplilbchfaa.W.quiet_bin rfl rfl rfl (fun W => qb_add_int W _ _ _ _ (by omega) (by omega))) ?_
      refine WL.op rfl rfl rfl (Go.Proofs.Ytobibplilbchfaa.W.quiet_move rfl rfl) ?_
      refine WL.end ?_
      refine Xw.any (fun a k => ?_)
      exact ⟨j + 1, by omega, by omega, vs, (by (repeat (refine Kn.cons k rfl ?_)); exact k.base), ff, bx1, hT, hz⟩
  · skip
    refine WL.nil ?_
    refine TW.seq ?_
    refine TW.cond rfl (fun hb => by cases hb) (fun _ => ?_)
    refine TW.exit ?_
    refine Xw.thn (by simp) ?_
    refine Xw.thn (by simp) ?_
    refine Xw.hit ?_
    refine Xw.nrm ?_
    refine TW.sreg ?_
    refine WL.op rfl rfl rfl (Go.Proofs.Ytobibplilbchfaa.W.quiet_move rfl rfl) ?_
    refine WL.op rfl rfl rfl (Go.Proofs.Ytobibplilbchfaa.W.quiet_assign rfl rfl) ?_
    refine WL.nil ?_
    refine TW.rt ?_
    refine bodyw_ret rfl rfl ?_
    have hje : j = bs.length := by have := of_decide_eq_false hbj; omega
    subst hje
    exact ⟨_, vs, rfl, hT, ff⟩
end Go.Proofs.Ytobibplilbchfaa
