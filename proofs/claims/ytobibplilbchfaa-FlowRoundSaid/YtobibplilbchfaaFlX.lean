/-
  Flow (layer 16): the walk of FlowRound.
-/
import Derived.Test.YtobibplilbchfaaFlS
import Derived.Test.YtobibplilbchfaaFlU
import Derived.Test.YtobibplilbchfaaFlO
import Derived.Test.YtobibplilbchfaaFlK
import Derived.Test.YtobibplilbchfaaFlQ
namespace Go.Proofs.Ytobibplilbchfaa
open Go.RowKit
set_option linter.unusedVariables false
set_option linter.unusedSimpArgs false
set_option linter.unnecessarySimpa false
theorem qk_rushlightlaw16_few (w : World) (vs : Array Value) : (callFunc 6 vs).run Try.prog w = .ok (.enter 6 vs) w := by simp [go_sem]
theorem qk_rushlightlaw16_awake (w : World) (vs : Array Value) : (callFunc 7 vs).run Try.prog w = .ok (.enter 7 vs) w := by simp [go_sem]
theorem qk_flow_Reach (w : World) (vs : Array Value) : (callFunc 9 vs).run Try.prog w = .ok (.enter 9 vs) w := by simp [go_sem]
theorem qb_neq_bool (w : World) (x y : Operand) (m n : Bool) : ((do eqGuard .neq 4 x y (.bool m) (.bool n); binOp .neq 4 (.bool m) (.bool n) : Sem Value)).run Try.prog w = .ok (.bool (m != n)) w := by cases m <;> cases n <;> simp [go_sem]
theorem qb_eql_bool (w : World) (x y : Operand) (m n : Bool) : ((do eqGuard .eql 4 x y (.bool m) (.bool n); binOp .eql 4 (.bool m) (.bool n) : Sem Value)).run Try.prog w = .ok (.bool (m == n)) w := by cases m <;> cases n <;> simp [go_sem]
def ordF (bs : List Bk) : List Int := (walkedF bs).left.reverse
theorem left_pos {bs : List Bk} {x : Int} (h : x ∈ (walkedF bs).left) : 0 < bs.length := by
  by_cases q : bs.length = 0
  · unfold walkedF at h; rw [if_pos q] at h; cases h
  · omega
theorem ord_mem {bs : List Bk} {x : Int} : x ∈ ordF bs ↔ x ∈ (walkedF bs).left := by unfold ordF; exact List.mem_reverse
theorem ord_nodup (bs : List Bk) : (ordF bs).Nodup := by
  by_cases q : bs.length = 0
  · unfold ordF walkedF; rw [if_pos q]; exact List.nodup_nil
  · exact List.pairwise_reverse.2 ((walked_ok bs (by omega)).1.nd.imp fun h => h.symm)
theorem idx_ne {a x : Int} {l : List Int} (h : a ≠ x) : (a :: l).idxOf x = l.idxOf x + 1 := by
  rw [List.idxOf_cons, show (a == x) = false from beq_eq_false_iff_ne.2 h]; rfl
theorem ord_get {bs : List Bk} {j : Nat} (hj : j < (ordF bs).length) : ∃ n : Nat, (ordF bs).getD j 0 = (n : Int) ∧ n < bs.length ∧ (n : Int) ∈ (walkedF bs).left := by
  have h := ord_mem.1 (getD_memZ hj)
  have h2 := (walked_ok bs (left_pos h)).1.li _ h
  unfold InB at h2
  exact ⟨((ordF bs).getD j 0).toNat, by omega, by omega, by rw [show (((ordF bs).getD j 0).toNat : Int) = (ordF bs).getD j 0 by omega]; exact h⟩
theorem nodup_idx : ∀ {l : List Int}, l.Nodup → ∀ {i : Nat}, i < l.length → l.idxOf (l.getD i 0) = i
  | [], _, i, h => absurd h (by simp)
  | a :: l, hn, 0, h => by simp
  | a :: l, hn, i + 1, h => by
    have hn2 := List.nodup_cons.1 hn
    have hi : i < l.length := by simpa using h
    have hne : a ≠ l.getD i 0 := fun e => hn2.1 (e ▸ getD_memZ hi)
    have e : (a :: l).getD (i + 1) 0 = l.getD i 0 := by simp
    rw [e, idx_ne hne, nodup_idx hn2.2 hi]
theorem rev_idx : ∀ {l : List Int}, l.Nodup → ∀ {x : Int}, x ∈ l → l.reverse.idxOf x + l.idxOf x + 1 = l.length
  | [], _, x, h => by cases h
  | a :: l, hn, x, h => by
    have hn2 := List.nodup_cons.1 hn
    rw [List.reverse_cons, List.idxOf_append]
    by_cases e : x = a
    · subst e
      rw [if_neg (fun q => hn2.1 (List.mem_reverse.1 q))]
      simp
    · have hx : x ∈ l := (List.mem_cons.1 h).resolve_left e
      have ih := rev_idx hn2.2 hx
      rw [if_pos (List.mem_reverse.2 hx), idx_ne (fun q => e q.symm), List.length_cons]
      omega
def atF (bs : List Bk) (i : Nat) : List Int := (List.range bs.length).map fun (k : Nat) => if (k : Int) ∈ (ordF bs).take i then (((ordF bs).idxOf (k : Int) : Nat) : Int) + 1 else 0
theorem atF_len (bs : List Bk) (i : Nat) : (atF bs i).length = bs.length := by simp [atF]
theorem atF_get {bs : List Bk} {i k : Nat} (hk : k < bs.length) : (atF bs i).getD k 0 = if (k : Int) ∈ (ordF bs).take i then (((ordF bs).idxOf (k : Int) : Nat) : Int) + 1 else 0 := by
  unfold atF
  rw [List.getD_eq_getElem?_getD, List.getElem?_map, List.getElem?_range hk]
  rfl
theorem atF_start (bs : List Bk) : atF bs 0 = List.replicate bs.length 0 := by
  unfold atF
  simp [List.map_const']
theorem take_succ' {l : List Int} {j : Nat} (hj : j < l.length) : l.take (j + 1) = l.take j ++ [l.getD j 0] := by
  rw [List.take_add_one, List.getElem?_eq_getElem hj, List.getD_eq_getElem?_getD, List.getElem?_eq_getElem hj]; rfl
theorem ord_new {bs : List Bk} {j : Nat} (hj : j < (ordF bs).length) : (ordF bs).getD j 0 ∉ (ordF bs).take j := fun h => by
  have h1 := (ord_nodup bs).sublist (List.take_sublist (j + 1) _)
  rw [take_succ' hj, List.nodup_append] at h1
  exact h1.2.2 _ h _ (List.mem_singleton.2 rfl) rfl
theorem at_zero {bs : List Bk} {j n : Nat} (hj : j < (ordF bs).length) (hn : (ordF bs).getD j 0 = (n : Int)) (hb : n < bs.length) : (atF bs j).getD n 0 = 0 := by
  rw [atF_get hb, if_neg]
  rw [← hn]; exact ord_new hj
theorem at_succ {bs : List Bk} {j n : Nat} (hj : j < (ordF bs).length) (hn : (ordF bs).getD j 0 = (n : Int)) (hb : n < bs.length) : (atF bs j).set n ((j : Int) + 1) = atF bs (j + 1) := by
  refine List.ext_getElem (by simp [atF_len]) fun k h1 h2 => ?_
  have hk : k < bs.length := by simpa [atF_len] using h2
  have g : ∀ i, (atF bs i)[k]'(by rw [atF_len]; exact hk) = (atF bs i).getD k 0 := fun i => by rw [List.getD_eq_getElem?_getD, List.getElem?_eq_getElem (by rw [atF_len]; exact hk)]; rfl
  rw [List.getElem_set, g, g, atF_get hk, atF_get hk, take_succ' hj, hn]
  by_cases q : n = k
  · subst q
    rw [if_pos rfl, if_pos (by simp), ← hn, nodup_idx (ord_nodup bs) hj]
  · rw [if_neg q]
    have : ((k : Int) ∈ (ordF bs).take j ++ [(n : Int)]) ↔ (k : Int) ∈ (ordF bs).take j := by
      rw [List.mem_append, List.mem_singleton]
      exact or_iff_left fun e => q (by omega)
    simp only [this]
theorem at_get {bs : List Bk} {n : Nat} (hn : n < bs.length) : (atF bs (ordF bs).length).getD n 0 = if (n : Int) ∈ (walkedF bs).left then (((ordF bs).idxOf (n : Int) : Nat) : Int) + 1 else 0 := by
  rw [atF_get hn, List.take_length]
  simp only [ord_mem]
theorem seen_get {bs : List Bk} {n : Nat} (hn : n < bs.length) : (seenF bs (walkedF bs).left).getD n false = decide ((n : Int) ∈ (walkedF bs).left) := by
  unfold seenF
  rw [List.getD_eq_getElem?_getD, List.getElem?_map, List.getElem?_range hn]
  rw [Bool.eq_iff_iff]
  simp
theorem reach_at {bs : List Bk} {n : Nat} (hn : n < bs.length) : (seenF bs (walkedF bs).left).getD n false = decide (0 < (atF bs (ordF bs).length).getD n 0) := by
  rw [seen_get hn, at_get hn, Bool.eq_iff_iff, decide_eq_true_iff, decide_eq_true_iff]
  by_cases h : (n : Int) ∈ (walkedF bs).left
  · rw [if_pos h]; exact iff_of_true h (by omega)
  · rw [if_neg h]; exact iff_of_false h (by decide)
theorem ord_zero {bs : List Bk} (h : 0 < (ordF bs).length) : (ordF bs).getD 0 0 = 0 := by
  have hb := left_pos (ord_mem.1 (getD_memZ h))
  obtain ⟨f, hf⟩ : ∃ f, bs.length = f + 1 := ⟨bs.length - 1, by omega⟩
  unfold ordF walkedF
  rw [if_neg (by omega), hf, into_succ]
  simp
def isF (l : List (Int × Int)) (p : Int × Int) (j : Nat) : Bool := (l.take j).contains p
theorem isF_yes {l : List (Int × Int)} {p : Int × Int} {j : Nat} (h : isF l p j = true) : isF l p (j + 1) = true := by
  unfold isF at *
  rw [List.take_add_one]
  simp only [List.contains_append, h, Bool.true_or]
theorem isF_no {l : List (Int × Int)} {a b : Int} {j : Nat} (hj : j < l.length) (h : isF l (a, b) j = false) : isF l (a, b) (j + 1) = ((l.getD j (0, 0)).1 == a && (l.getD j (0, 0)).2 == b) := by
  unfold isF at *
  rw [List.take_add_one, List.getElem?_eq_getElem hj, List.getD_eq_getElem?_getD, List.getElem?_eq_getElem hj]
  simp only [List.contains_append, h, Bool.false_or, Option.toList, List.contains_cons, List.contains_nil, Bool.or_false, Option.getD_some]
  obtain ⟨c, d⟩ := l[j]
  rw [Bool.eq_iff_iff]
  simp only [beq_iff_eq, Bool.and_eq_true, Prod.mk.injEq]
  exact ⟨fun e => ⟨e.1.symm, e.2.symm⟩, fun e => ⟨e.1.symm, e.2.symm⟩⟩
theorem round_ok {bs : List Bk} {n m : Nat} (hn : n < bs.length) (hr : (seenF bs (walkedF bs).left).getD n false = true) (hm : (m : Int) ∈ outsF bs n) : isF (walkedF bs).back ((n : Int), (m : Int)) (walkedF bs).back.length = !decide ((atF bs (ordF bs).length).getD n 0 < (atF bs (ordF bs).length).getD m 0) := by
  have hmb : m < bs.length := by have := outsF_in hm; omega
  obtain ⟨hg, hl⟩ := walked_ok bs (by omega)
  have hnl : (n : Int) ∈ (walkedF bs).left := by rw [seen_get hn] at hr; exact of_decide_eq_true hr
  have hml : (m : Int) ∈ (walkedF bs).left := (hl m hmb).2 (.step ((hl n hn).1 hnl) (List.contains_iff_mem.2 hm))
  have hd := (hg.dn n hn ((hg.lf n hn).1 hnl) m hm).2
  have e1 := rev_idx hg.nd hnl
  have e2 := rev_idx hg.nd hml
  have h1 := List.idxOf_lt_length_of_mem hnl
  have h2 := List.idxOf_lt_length_of_mem hml
  rw [at_get hn, at_get hmb, if_pos hnl, if_pos hml]
  unfold isF ordF
  rw [List.take_length, Bool.eq_iff_iff, List.contains_iff_mem, hd, Bool.not_eq_true', decide_eq_false_iff_not]
  omega
theorem nb_no {x y : Bool} (h : x = !y) (hb : (x == y) = true) : False := by subst h; cases y <;> cases hb
theorem out_get {bs : List Bk} {n i : Nat} (hi : i < (outsF bs n).length) : ∃ m : Nat, (outsF bs n).getD i 0 = (m : Int) ∧ m < bs.length ∧ (m : Int) ∈ outsF bs n := by
  have h := getD_memZ hi
  have h2 := outsF_in h
  exact ⟨((outsF bs n).getD i 0).toNat, by omega, by omega, by rw [show (((outsF bs n).getD i 0).toNat : Int) = (outsF bs n).getD i 0 by omega]; exact h⟩
set_option maxRecDepth 100000 in
set_option maxHeartbeats 1000000 in
theorem walk_round (nm : ByteArray) (vd : Bool) (pr R : Int) (oa : Option Addr) (on oc : Nat) (ba : Option Addr) (bs : List Bk) (bc : Nat) (hwd : Wd bs) (w : World) (hbl : BkL w ba bs) : Calls Try.prog 4 #[.agg #[.string nm, .bool vd, .int .i64 pr, .int .i64 R, .slice oa on oc, .slice ba bs.length bc]] w fun e w' => e = .returned (.bool true) ∧ Fr (fun _ => False) w w' := by
  have ff := Fr.refl (fun _ => False) w
  refine calls_tw Try.func4 rfl rfl (Nat.le_of_ble_eq_true rfl) ?_
  refine TW.sreg ?_
  have lw1 := ff.size
  refine O.boxR rfl rfl rfl rfl rfl (qxR_api_Proc w _ _ _ _ _ _ _ _ _ _) ?_
  rintro wa1 ⟨fa1, bx1⟩
  replace ff := ff.trans fa1
  refine WL.op rfl rfl rfl (Go.Proofs.Ytobibplilbchfaa.W.quiet_assign rfl rfl) ?_
  refine WL.nil ?_
  refine TW.seq ?_
  refine TW.sreg ?_
  refine WL.ld rfl rfl rfl rfl rfl (qlB_api_Proc _ _ _ _ _ _ _ _ _ _ _ _ _ bx1) ?_
  refine WL.call (hr := t_few nm vd pr R oa on oc ba bs bc hwd _ (hbl.fr ff)) rfl rfl rfl rfl rfl (fun W => qk_rushlightlaw16_few W _) ?_
  rintro e w1 ⟨b1, rfl, hb1, f1⟩
  refine ⟨_, rfl, ?_⟩
  replace bx1 := bx1.fr f1 id
  replace ff := ff.trans f1
  cases b1
  · clear hb1
    refine WL.op rfl rfl rfl (Go.Proofs.Ytobibplilbchfaa.W.quiet_not rfl rfl) ?_
    refine O.split (fun hb => ?_) (fun hb => by exfalso; revert hb; first | (simp; done) | (simp; omega))
    refine WL.nil ?_
    refine TW.cond rfl (fun _ => ?_) (fun hb => by cases hb)
    refine TW.sreg ?_
    refine WL.call (hr := t_awake _) rfl rfl rfl rfl rfl (fun W => qk_rushlightlaw16_awake W _) ?_
    rintro e w2 ⟨rfl, f2⟩
    refine ⟨_, rfl, ?_⟩
    replace bx1 := bx1.fr f2 id
    replace ff := ff.trans f2
    refine WL.op rfl rfl rfl (Go.Proofs.Ytobibplilbchfaa.W.quiet_assign rfl rfl) ?_
    refine WL.nil ?_
    refine TW.rt ?_
    refine Xw.thn (by simp) ?_
    refine bodyw_ret rfl rfl ?_
    exact ⟨rfl, ff⟩
  · obtain ⟨hR30, hn40, _⟩ := hb1 rfl
    have hlb := left_in bs
    refine WL.op rfl rfl rfl (Go.Proofs.Ytobibplilbchfaa.W.quiet_not rfl rfl) ?_
    refine O.split (fun hb => by exfalso; revert hb; first | (simp; done) | (simp; omega)) (fun hb => ?_)
    obtain ⟨_, hll, hlbk⟩ := hlb
    have hlo : (ordF bs).length = (walkedF bs).left.length := List.length_reverse
    refine WL.nil ?_
    refine TW.cond rfl (fun hb => by cases hb) (fun _ => ?_)
    refine TW.skip ?_
    refine O.mid (fun a W => ∃ (B0 : Nat) (ao : Option Addr) (co B1 gr cr B2 : Nat) (ab : Option Addr) (cb : Nat), Kn Try.f4.ntmps [(1, .pointer (some ⟨w.heap.size, 0, none⟩)), (3, .slice ao (ordF bs).length co), (4, .slice ab (walkedF bs).back.length cb), (5, .slice (some ⟨gr, 0, none⟩) bs.length cr)] a ∧ Fr (fun _ => False) w W ∧ Bx W w.heap.size #[.string nm, .bool vd, .int .i64 pr, .int .i64 R, .slice oa on oc, .slice ba bs.length bc] 25 ∧ Ints B0 W (.slice ao (ordF bs).length co) (ordF bs) ∧ Bools B1 W (.slice (some ⟨gr, 0, none⟩) bs.length cr) (seenF bs (walkedF bs).left) ∧ Row B2 41 2 pC W (.slice ab (walkedF bs).back.length cb) (walkedF bs).back) ?_ ?_
    · skip
      have b1 := bx1
      refine TW.regH (fun W => Fr (fun _ => False) w1 W) (by kernel_rfl) ?_
      have fd : Fr (fun _ => False) w1 w1.drew := (Fr.refl _ _).drewN 1
      have HW : Fr (fun _ => False) w1 w1.drew := (Fr.refl _ _).drewN 1
      replace bx1 := bx1.fr fd id
      replace ff := ff.trans fd
      generalize hV : w1.drew = V1 at *
      clear hV
      refine WH.take 0 rfl (by kernel_rfl) (by kernel_rfl) (by kernel_rfl) (fun _ _ _ _ _ h => h) rfl rfl rfl HW (RH.load rfl rfl (fun W hW => qlB_api_Proc _ _ _ _ _ _ _ _ _ _ _ _ _ (b1.fr hW id))) ?_
      refine WH.take 2 rfl (by kernel_rfl) (by kernel_rfl) (by kernel_rfl) (fun _ _ _ _ _ h => h) rfl rfl rfl HW (RH.load rfl rfl (fun W hW => qlB_api_Proc _ _ _ _ _ _ _ _ _ _ _ _ _ (b1.fr hW id))) ?_
      refine WH.take 4 rfl (by kernel_rfl) (by kernel_rfl) (by kernel_rfl) (fun _ _ _ _ _ h => h) rfl rfl rfl HW (RH.load rfl rfl (fun W hW => qlB_api_Proc _ _ _ _ _ _ _ _ _ _ _ _ _ (b1.fr hW id))) ?_
      refine WH.one 1 (by kernel_rfl) rfl ?_ 
      refine WL.call (hr := (t_order _ _ _ _ _ _ _ _ bs _ (by omega) _ (hbl.fr ff))) rfl rfl rfl rfl rfl (fun W => qk_flow_Order W _) ?_
      rintro e wa ⟨vo, rfl, hOr, f1⟩
      refine ⟨_, rfl, ?_⟩
      replace bx1 := bx1.fr f1 id
      replace HW := HW.trans' f1 (fun q hq e => e.elim)
      replace ff := ff.trans f1
      change Ints _ _ vo (ordF bs) at hOr
      obtain ⟨ao, co, rfl⟩ := Row.form hOr
      refine WL.fin HW ?_
      refine WH.one 3 (by kernel_rfl) rfl ?_ 
      refine WL.call (hr := (t_back _ _ _ _ _ _ _ _ bs _ (by omega) _ (hbl.fr ff))) rfl rfl rfl rfl rfl (fun W => qk_flow_Back W _) ?_
      rintro e wc ⟨vb, rfl, hBk, f3⟩
      refine ⟨_, rfl, ?_⟩
      replace bx1 := bx1.fr f3 id
      replace HW := HW.trans' f3 (fun q hq e => e.elim)
      replace hOr := Ints.fr hOr f3 (fun _ _ => id)
      replace ff := ff.trans f3
      obtain ⟨ab, cb, rfl⟩ := Row.form hBk
      refine WL.fin HW ?_
      refine WH.one 5 (by kernel_rfl) rfl ?_ 
      refine WL.call (hr := (t_reach _ _ _ _ _ _ _ _ bs _ (by omega) _ (hbl.fr ff))) rfl rfl rfl rfl rfl (fun W => qk_flow_Reach W _) ?_
      rintro e wb ⟨B1, gr, cr, rfl, hRe, f2⟩
      refine ⟨_, rfl, ?_⟩
      replace bx1 := bx1.fr f2 id
      replace HW := HW.trans' f2 (fun q hq e => e.elim)
      replace hOr := Ints.fr hOr f2 (fun _ _ => id)
      replace hBk := Row.fr hBk f2 (fun _ _ => id)
      replace ff := ff.trans f2
      refine WL.fin HW ?_
      refine WH.take 6 rfl (by kernel_rfl) (by kernel_rfl) (by kernel_rfl) (fun _ _ _ _ _ h => h) rfl rfl rfl HW (RH.assign rfl rfl) ?_
      refine WH.take 7 rfl (by kernel_rfl) (by kernel_rfl) (by kernel_rfl) (fun _ _ _ _ _ h => h) rfl rfl rfl HW (RH.assign rfl rfl) ?_
      refine WH.take 8 rfl (by kernel_rfl) (by kernel_rfl) (by kernel_rfl) (fun _ _ _ _ _ h => h) rfl rfl rfl HW (RH.assign rfl rfl) ?_
      refine WH.end (by kernel_rfl) ?_
      refine Xw.any (fun a k => ?_)
      exact ⟨_, ao, co, B1, gr, cr, _, ab, cb, (by (repeat (refine Kn.cons k rfl ?_)); exact k.base), ff, bx1, hOr, hRe, hBk⟩
    · rintro a wm ⟨B0, ao, co, B1, gr, cr, B2, ab, cb, k, ff, bx1, hOr, hRe, hBk⟩
      refine TW.app (s := [(1, .pointer (some ⟨w.heap.size, 0, none⟩)), (3, .slice ao (ordF bs).length co), (4, .slice ab (walkedF bs).back.length cb), (5, .slice (some ⟨gr, 0, none⟩) bs.length cr)]) ?_ k
      have zOr := fun (q : Nat) hq => (Row.lt hOr q hq).2
      have zRe := fun (q : Nat) hq => (Row.lt hRe q hq).2
      have zBk := fun (q : Nat) hq => (Row.lt hBk q hq).2
      refine TW.sreg ?_
      refine WL.op rfl rfl rfl (Go.Proofs.Ytobibplilbchfaa.W.quiet_field rfl rfl (fun W => (qa_api_Proc_5 W _ _))) ?_
      refine WL.ld rfl rfl rfl rfl rfl (ql_s_api_Block _ _ _ _ _ (bx1.cell (j := 5) rfl)) ?_
      refine O.len rfl rfl rfl rfl rfl (qn_s_api_Block _ _ _ _) ?_
      have lt2_bx1 := bx1.lt
      have lw2 := ff.size
      refine O.mkR rfl rfl rfl rfl rfl rfl (mk_i bs.length (by omega) _) ?_
      rintro wa2 ⟨fa2, bx2⟩
      replace bx1 := bx1.fr fa2 id
      replace hOr := Ints.fr hOr fa2 (fun _ _ => id)
      replace hRe := Bools.fr hRe fa2 (fun _ _ => id)
      replace hBk := Row.fr hBk fa2 (fun _ _ => id)
      replace ff := ff.trans fa2
      have hA := ints_made (B := wm.heap.size) bx2 (Nat.le_refl _) (by omega)
      rw [← atF_start bs] at hA
      refine WL.op rfl rfl rfl (Go.Proofs.Ytobibplilbchfaa.W.quiet_assign rfl rfl) ?_
      refine WL.nil ?_
      refine TW.seq ?_
      refine TW.sreg ?_
      refine WL.op rfl rfl rfl (Go.Proofs.Ytobibplilbchfaa.W.quiet_assign rfl rfl) ?_
      refine WL.nil ?_
      refine TW.block ?_
      refine O.loopG (n := (ordF bs).length) (fun a _ => (intOf (a.tmps.getD 7 undef)).toNat) (fun j a W => Kn Try.f4.ntmps [(1, .pointer (some ⟨w.heap.size, 0, none⟩)), (3, .slice ao (ordF bs).length co), (4, .slice ab (walkedF bs).back.length cb), (5, .slice (some ⟨gr, 0, none⟩) bs.length cr), (6, .slice (some ⟨wm.heap.size, 0, none⟩) bs.length bs.length), (7, .int .i64 (j : Int))] a ∧ Fr (fun _ => False) w W ∧ Bx W w.heap.size #[.string nm, .bool vd, .int .i64 pr, .int .i64 R, .slice oa on oc, .slice ba bs.length bc] 25 ∧ Ints B0 W (.slice ao (ordF bs).length co) (ordF bs) ∧ Row B2 41 2 pC W (.slice ab (walkedF bs).back.length cb) (walkedF bs).back ∧ Bools B1 W (.slice (some ⟨gr, 0, none⟩) bs.length cr) (seenF bs (walkedF bs).left) ∧ Ints wm.heap.size W (.slice (some ⟨wm.heap.size, 0, none⟩) bs.length bs.length) (atF bs j)) (fun j a W h => O.slotv h.1 rfl) 0 (Nat.zero_le _) (fun a k => ⟨(by (repeat (refine Kn.cons k rfl ?_)); exact k.base), ff, bx1, hOr, hBk, hRe, hA⟩) ?_
      rintro j a wl1 hj ⟨k, ff, bx1, hOr, hBk, hRe, hA⟩
      refine TW.app (s := [(1, .pointer (some ⟨w.heap.size, 0, none⟩)), (3, .slice ao (ordF bs).length co), (4, .slice ab (walkedF bs).back.length cb), (5, .slice (some ⟨gr, 0, none⟩) bs.length cr), (6, .slice (some ⟨wm.heap.size, 0, none⟩) bs.length bs.length), (7, .int .i64 (j : Int))]) ?_ k
      refine TW.seq ?_
      refine TW.sreg ?_
      refine WL.op rfl rfl rfl (Go.Proofs.Ytobibplilbchfaa.W.quiet_move rfl rfl) ?_
      refine WL.op rfl rfl rfl (Go.Proofs.Ytobibplilbchfaa.W.quiet_move rfl rfl) ?_
      refine O.len rfl rfl rfl rfl rfl (qn_s_int _ _ _ _) ?_
      refine WL.op rfl rfl rfl (Go.Proofs.Ytobibplilbchfaa.W.quiet_bin rfl rfl rfl (fun W => qb_lss_int W _ _ _ _)) ?_
      refine O.split (fun hbj => ?_) (fun hbj => ?_)
      · skip
        have hj2 : j < (ordF bs).length := by have := of_decide_eq_true hbj; omega
        obtain ⟨n, hn, hnb, hnl⟩ := ord_get hj2
        obtain ⟨_, _, e2, hat⟩ := hOr.at
        cases e2
        obtain ⟨go, oo, rfl, hc⟩ := hat j hj2
        rw [hn] at hc
        have hcn := hA.cell (k := n) (by rw [atF_len]; exact hnb)
        rw [at_zero hj2 hn hnb] at hcn
        have hcr := hRe.cell (k := n) (by rw [seen_len]; exact hnb)
        rw [seen_get hnb, decide_eq_true hnl] at hcr
        refine WL.nil ?_
        refine TW.cond rfl (fun _ => ?_) (fun hb => by cases hb)
        refine TW.skip ?_
        refine TW.seq ?_
        refine TW.block ?_
        refine TW.sreg ?_
        refine WL.op rfl rfl rfl (Go.Proofs.Ytobibplilbchfaa.W.quiet_move rfl rfl) ?_
        refine WL.op rfl rfl rfl (Go.Proofs.Ytobibplilbchfaa.W.quiet_move rfl rfl) ?_
        refine O.ixa rfl rfl rfl rfl rfl rfl (qi_s_int _ _ _ _ _ _ (by omega)) ?_
        refine WL.ld rfl rfl rfl rfl rfl (ql_int _ _ _ hc) ?_
        refine WL.op rfl rfl rfl (Go.Proofs.Ytobibplilbchfaa.W.quiet_assign rfl rfl) ?_
        refine WL.nil ?_
        refine TW.seq ?_
        refine TW.sreg ?_
        refine WL.op rfl rfl rfl (Go.Proofs.Ytobibplilbchfaa.W.quiet_move rfl rfl) ?_
        refine WL.op rfl rfl rfl (Go.Proofs.Ytobibplilbchfaa.W.quiet_bin rfl rfl rfl (fun W => qb_lss_int W _ _ _ _)) ?_
        refine O.split (fun hb => by have := of_decide_eq_true hb; omega) (fun hb => ?_)
        refine WL.op rfl rfl rfl (Go.Proofs.Ytobibplilbchfaa.W.quiet_move rfl rfl) ?_
        refine WL.op rfl rfl rfl (Go.Proofs.Ytobibplilbchfaa.W.quiet_move rfl rfl) ?_
        refine WL.op rfl rfl rfl (Go.Proofs.Ytobibplilbchfaa.W.quiet_move rfl rfl) ?_
        refine O.len rfl rfl rfl rfl rfl (qn_s_int _ _ _ _) ?_
        refine WL.op rfl rfl rfl (Go.Proofs.Ytobibplilbchfaa.W.quiet_bin rfl rfl rfl (fun W => qb_geq_int W _ _ _ _)) ?_
        refine O.split (fun hb => by have := of_decide_eq_true hb; omega) (fun hb => ?_)
        refine WL.op rfl rfl rfl (Go.Proofs.Ytobibplilbchfaa.W.quiet_pick rfl rfl rfl) ?_
        refine WL.op rfl rfl rfl (Go.Proofs.Ytobibplilbchfaa.W.quiet_move rfl rfl) ?_
        refine WL.op rfl rfl rfl (Go.Proofs.Ytobibplilbchfaa.W.quiet_move rfl rfl) ?_
        refine WL.op rfl rfl rfl (Go.Proofs.Ytobibplilbchfaa.W.quiet_move rfl rfl) ?_
        refine O.ixa rfl rfl rfl rfl rfl rfl (qi_s_int _ _ _ _ _ _ (by omega)) ?_
        refine WL.ld rfl rfl rfl rfl rfl (ql_int _ _ _ hcn) ?_
        refine WL.op rfl rfl rfl (Go.Proofs.Ytobibplilbchfaa.W.quiet_bin rfl rfl rfl (fun W => qb_gtr_int W _ _ _ _)) ?_
        refine O.split (fun hb => by exfalso; revert hb; first | (simp; done) | (simp; omega)) (fun hb => ?_)
        refine WL.op rfl rfl rfl (Go.Proofs.Ytobibplilbchfaa.W.quiet_pick rfl rfl rfl) ?_
        refine WL.op rfl rfl rfl (Go.Proofs.Ytobibplilbchfaa.W.quiet_move rfl rfl) ?_
        refine WL.op rfl rfl rfl (Go.Proofs.Ytobibplilbchfaa.W.quiet_move rfl rfl) ?_
        refine WL.op rfl rfl rfl (Go.Proofs.Ytobibplilbchfaa.W.quiet_move rfl rfl) ?_
        refine O.len rfl rfl rfl rfl rfl (qn_s_bool _ _ _ _) ?_
        refine WL.op rfl rfl rfl (Go.Proofs.Ytobibplilbchfaa.W.quiet_bin rfl rfl rfl (fun W => qb_geq_int W _ _ _ _)) ?_
        refine O.split (fun hb => by have := of_decide_eq_true hb; omega) (fun hb => ?_)
        refine WL.op rfl rfl rfl (Go.Proofs.Ytobibplilbchfaa.W.quiet_pick rfl rfl rfl) ?_
        refine WL.op rfl rfl rfl (Go.Proofs.Ytobibplilbchfaa.W.quiet_move rfl rfl) ?_
        refine WL.op rfl rfl rfl (Go.Proofs.Ytobibplilbchfaa.W.quiet_move rfl rfl) ?_
        refine WL.op rfl rfl rfl (Go.Proofs.Ytobibplilbchfaa.W.quiet_move rfl rfl) ?_
        refine O.ixa rfl rfl rfl rfl rfl rfl (qi_s_bool _ _ _ _ _ _ (by omega)) ?_
        refine WL.ld rfl rfl rfl rfl rfl (ql_bool _ _ _ hcr) ?_
        refine O.split (fun hb => ?_) (fun hb => by exfalso; revert hb; first | (simp; done) | (simp; omega))
        refine WL.op rfl rfl rfl (Go.Proofs.Ytobibplilbchfaa.W.quiet_not rfl rfl) ?_
        refine WL.op rfl rfl rfl (Go.Proofs.Ytobibplilbchfaa.W.quiet_pick rfl rfl rfl) ?_
        refine WL.op rfl rfl rfl (Go.Proofs.Ytobibplilbchfaa.W.quiet_move rfl rfl) ?_
        refine WL.op rfl rfl rfl (Go.Proofs.Ytobibplilbchfaa.W.quiet_move rfl rfl) ?_
        refine WL.op rfl rfl rfl (Go.Proofs.Ytobibplilbchfaa.W.quiet_bin rfl rfl rfl (fun W => qb_eql_int W _ _ _ _)) ?_
        refine O.split (fun hz0 => ?_) (fun hz0 => ?_)
        · skip
          have hj0i : (j : Int) = 0 := by simpa using hz0
          have hj0 : j = 0 := by omega
          have hn0 : (n : Int) = 0 := by rw [← hn, hj0]; exact ord_zero (by omega)
          refine WL.op rfl rfl rfl (Go.Proofs.Ytobibplilbchfaa.W.quiet_move rfl rfl) ?_
          refine WL.op rfl rfl rfl (Go.Proofs.Ytobibplilbchfaa.W.quiet_move rfl rfl) ?_
          refine WL.op rfl rfl rfl (Go.Proofs.Ytobibplilbchfaa.W.quiet_bin rfl rfl rfl (fun W => qb_neq_int W _ _ _ _)) ?_
          refine O.split (fun hb => by rw [hn0] at hb; simp at hb) (fun hb => ?_)
          refine WL.op rfl rfl rfl (Go.Proofs.Ytobibplilbchfaa.W.quiet_pick rfl rfl rfl) ?_
          refine WL.op rfl rfl rfl (Go.Proofs.Ytobibplilbchfaa.W.quiet_pick rfl rfl rfl) ?_
          refine WL.nil ?_
          refine TW.cond rfl (fun hb => by cases hb) (fun _ => ?_)
          refine TW.skip ?_
          refine TW.reg ?_
          refine WL.op rfl rfl rfl (Go.Proofs.Ytobibplilbchfaa.W.quiet_move rfl rfl) ?_
          refine WL.op rfl rfl rfl (Go.Proofs.Ytobibplilbchfaa.W.quiet_move rfl rfl) ?_
          refine WL.op rfl rfl rfl (Go.Proofs.Ytobibplilbchfaa.W.quiet_move rfl rfl) ?_
          refine WL.op rfl rfl rfl (Go.Proofs.Ytobibplilbchfaa.W.quiet_bin rfl rfl rfl (fun W => qb_add_int W _ _ _ _ (by omega) (by omega))) ?_
          refine O.ixa rfl rfl rfl rfl rfl rfl (qi_s_int _ _ _ _ _ _ (by omega)) ?_
          refine O.storeR rfl rfl rfl rfl rfl (hA.store (k := n) (by rw [atF_len]; exact hnb) _) ?_
          rintro wS ⟨hA2, hFs⟩
          replace bx1 := bx1.fr hFs (fun e => by omega)
          replace hOr := Ints.fr hOr hFs (fun q hq e => by have := zOr q hq; omega)
          replace hRe := Bools.fr hRe hFs (fun q hq e => by have := zRe q hq; omega)
          replace hBk := Row.fr hBk hFs (fun q hq e => by have := zBk q hq; omega)
          replace ff := ff.trans' hFs (fun q hq e => by omega)
          rw [at_succ hj2 hn hnb] at hA2
          refine WL.end ?_
          refine Xw.nblk ?_
          refine Xw.nrm ?_
          refine TW.reg ?_
          refine WL.op rfl rfl rfl (Go.Proofs.Ytobibplilbchfaa.W.quiet_move rfl rfl) ?_
          refine WL.op rfl rfl rfl (Go.Proofs.Ytobibplilbchfaa.W.quiet_bin rfl rfl rfl (fun W => qb_add_int W _ _ _ _ (by omega) (by omega))) ?_
          refine WL.op rfl rfl rfl (Go.Proofs.Ytobibplilbchfaa.W.quiet_assign rfl rfl) ?_
          refine WL.end ?_
          refine Xw.any (fun a k => ?_)
          exact ⟨j + 1, by omega, by omega, (by (repeat (refine Kn.cons k rfl ?_)); exact k.base), ff, bx1, hOr, hBk, hRe, hA2⟩
        · skip
          refine WL.op rfl rfl rfl (Go.Proofs.Ytobibplilbchfaa.W.quiet_move rfl rfl) ?_
          refine WL.skip rfl rfl rfl ?_
          refine WL.skip rfl rfl rfl ?_
          refine WL.op rfl rfl rfl (Go.Proofs.Ytobibplilbchfaa.W.quiet_pick rfl rfl rfl) ?_
          refine WL.op rfl rfl rfl (Go.Proofs.Ytobibplilbchfaa.W.quiet_pick rfl rfl rfl) ?_
          refine WL.nil ?_
          refine TW.cond rfl (fun hb => by cases hb) (fun _ => ?_)
          refine TW.skip ?_
          refine TW.reg ?_
          refine WL.op rfl rfl rfl (Go.Proofs.Ytobibplilbchfaa.W.quiet_move rfl rfl) ?_
          refine WL.op rfl rfl rfl (Go.Proofs.Ytobibplilbchfaa.W.quiet_move rfl rfl) ?_
          refine WL.op rfl rfl rfl (Go.Proofs.Ytobibplilbchfaa.W.quiet_move rfl rfl) ?_
          refine WL.op rfl rfl rfl (Go.Proofs.Ytobibplilbchfaa.W.quiet_bin rfl rfl rfl (fun W => qb_add_int W _ _ _ _ (by omega) (by omega))) ?_
          refine O.ixa rfl rfl rfl rfl rfl rfl (qi_s_int _ _ _ _ _ _ (by omega)) ?_
          refine O.storeR rfl rfl rfl rfl rfl (hA.store (k := n) (by rw [atF_len]; exact hnb) _) ?_
          rintro wS ⟨hA2, hFs⟩
          replace bx1 := bx1.fr hFs (fun e => by omega)
          replace hOr := Ints.fr hOr hFs (fun q hq e => by have := zOr q hq; omega)
          replace hRe := Bools.fr hRe hFs (fun q hq e => by have := zRe q hq; omega)
          replace hBk := Row.fr hBk hFs (fun q hq e => by have := zBk q hq; omega)
          replace ff := ff.trans' hFs (fun q hq e => by omega)
          rw [at_succ hj2 hn hnb] at hA2
          refine WL.end ?_
          refine Xw.nblk ?_
          refine Xw.nrm ?_
          refine TW.reg ?_
          refine WL.op rfl rfl rfl (Go.Proofs.Ytobibplilbchfaa.W.quiet_move rfl rfl) ?_
          refine WL.op rfl rfl rfl (Go.Proofs.Ytobibplilbchfaa.W.quiet_bin rfl rfl rfl (fun W => qb_add_int W _ _ _ _ (by omega) (by omega))) ?_
          refine WL.op rfl rfl rfl (Go.Proofs.Ytobibplilbchfaa.W.quiet_assign rfl rfl) ?_
          refine WL.end ?_
          refine Xw.any (fun a k => ?_)
          exact ⟨j + 1, by omega, by omega, (by (repeat (refine Kn.cons k rfl ?_)); exact k.base), ff, bx1, hOr, hBk, hRe, hA2⟩
      · skip
        have hje : j = (ordF bs).length := by have := of_decide_eq_false hbj; omega
        subst hje
        refine WL.nil ?_
        refine TW.cond rfl (fun hb => by cases hb) (fun _ => ?_)
        refine TW.exit ?_
        refine Xw.thn (by simp) ?_
        refine Xw.thn (by simp) ?_
        refine Xw.hit ?_
        refine Xw.nrm ?_
        refine TW.seq ?_
        refine TW.sreg ?_
        refine WL.op rfl rfl rfl (Go.Proofs.Ytobibplilbchfaa.W.quiet_assign rfl rfl) ?_
        refine WL.nil ?_
        refine TW.block ?_
        refine O.loopG (n := bs.length) (fun a _ => (intOf (a.tmps.getD 9 undef)).toNat) (fun n a W => Kn Try.f4.ntmps [(1, .pointer (some ⟨w.heap.size, 0, none⟩)), (4, .slice ab (walkedF bs).back.length cb), (5, .slice (some ⟨gr, 0, none⟩) bs.length cr), (6, .slice (some ⟨wm.heap.size, 0, none⟩) bs.length bs.length), (9, .int .i64 (n : Int))] a ∧ Fr (fun _ => False) w W ∧ Bx W w.heap.size #[.string nm, .bool vd, .int .i64 pr, .int .i64 R, .slice oa on oc, .slice ba bs.length bc] 25 ∧ Row B2 41 2 pC W (.slice ab (walkedF bs).back.length cb) (walkedF bs).back ∧ Bools B1 W (.slice (some ⟨gr, 0, none⟩) bs.length cr) (seenF bs (walkedF bs).left) ∧ Ints wm.heap.size W (.slice (some ⟨wm.heap.size, 0, none⟩) bs.length bs.length) (atF bs (ordF bs).length)) (fun n a W h => O.slotv h.1 rfl) 0 (Nat.zero_le _) (fun a k => ⟨(by (repeat (refine Kn.cons k rfl ?_)); exact k.base), ff, bx1, hBk, hRe, hA⟩) ?_
        rintro n a wl2 hj ⟨k, ff, bx1, hBk, hRe, hA⟩
        refine TW.app (s := [(1, .pointer (some ⟨w.heap.size, 0, none⟩)), (4, .slice ab (walkedF bs).back.length cb), (5, .slice (some ⟨gr, 0, none⟩) bs.length cr), (6, .slice (some ⟨wm.heap.size, 0, none⟩) bs.length bs.length), (9, .int .i64 (n : Int))]) ?_ k
        refine TW.seq ?_
        refine TW.sreg ?_
        refine WL.op rfl rfl rfl (Go.Proofs.Ytobibplilbchfaa.W.quiet_move rfl rfl) ?_
        refine WL.op rfl rfl rfl (Go.Proofs.Ytobibplilbchfaa.W.quiet_field rfl rfl (fun W => (qa_api_Proc_5 W _ _))) ?_
        refine WL.ld rfl rfl rfl rfl rfl (ql_s_api_Block _ _ _ _ _ (bx1.cell (j := 5) rfl)) ?_
        refine O.len rfl rfl rfl rfl rfl (qn_s_api_Block _ _ _ _) ?_
        refine WL.op rfl rfl rfl (Go.Proofs.Ytobibplilbchfaa.W.quiet_bin rfl rfl rfl (fun W => qb_lss_int W _ _ _ _)) ?_
        refine O.split (fun hbn => ?_) (fun hbn => ?_)
        · skip
          have hn2 : n < bs.length := by have := of_decide_eq_true hbn; omega
          have hcr := hRe.cell (k := n) (by rw [seen_len]; exact hn2)
          rw [reach_at hn2] at hcr
          have hcn := hA.cell (k := n) (by rw [atF_len]; exact hn2)
          refine WL.nil ?_
          refine TW.cond rfl (fun _ => ?_) (fun hb => by cases hb)
          refine TW.skip ?_
          refine TW.seq ?_
          refine TW.block ?_
          refine TW.seq ?_
          refine Q.sreg (C := fun W => Fr (fun _ => False) wl2 W) (by kernel_rfl) (by kernel_rfl) (fun W h => h.drewN 1) (Fr.refl _ _) ?_
          refine W.op rfl rfl rfl (Go.Proofs.Ytobibplilbchfaa.W.quiet_move rfl rfl) ?_
          refine W.op rfl rfl rfl (Go.Proofs.Ytobibplilbchfaa.W.quiet_move rfl rfl) ?_
          refine W.op rfl rfl rfl (Q.len rfl rfl (fun W => (qn_s_bool _ _ _ _))) ?_
          refine W.op rfl rfl rfl (Go.Proofs.Ytobibplilbchfaa.W.quiet_bin rfl rfl rfl (fun W => qb_geq_int W _ _ _ _)) ?_
          refine Q.split (fun hb => by have := of_decide_eq_true hb; omega) (fun hb => ?_)
          refine W.op rfl rfl rfl (Go.Proofs.Ytobibplilbchfaa.W.quiet_move rfl rfl) ?_
          refine W.op rfl rfl rfl (Go.Proofs.Ytobibplilbchfaa.W.quiet_move rfl rfl) ?_
          refine W.op rfl rfl rfl (Go.Proofs.Ytobibplilbchfaa.W.quiet_move rfl rfl) ?_
          refine W.op rfl rfl rfl (Go.Proofs.Ytobibplilbchfaa.W.quiet_index rfl rfl rfl (fun W => (qi_s_bool _ _ _ _ _ _ (by omega)))) ?_
          refine W.op rfl rfl rfl (Go.Proofs.Ytobibplilbchfaa.W.quiet_load rfl rfl (fun W hW => (ql_bool _ _ _ (hW.cell hcr id)))) ?_
          refine W.op rfl rfl rfl (Go.Proofs.Ytobibplilbchfaa.W.quiet_move rfl rfl) ?_
          refine W.op rfl rfl rfl (Go.Proofs.Ytobibplilbchfaa.W.quiet_move rfl rfl) ?_
          refine W.op rfl rfl rfl (Go.Proofs.Ytobibplilbchfaa.W.quiet_index rfl rfl rfl (fun W => (qi_s_int _ _ _ _ _ _ (by omega)))) ?_
          refine W.op rfl rfl rfl (Go.Proofs.Ytobibplilbchfaa.W.quiet_load rfl rfl (fun W hW => (ql_int _ _ _ (hW.cell hcn id)))) ?_
          refine W.op rfl rfl rfl (Go.Proofs.Ytobibplilbchfaa.W.quiet_bin rfl rfl rfl (fun W => qb_gtr_int W _ _ _ _)) ?_
          skip
          refine W.op rfl rfl rfl (Go.Proofs.Ytobibplilbchfaa.W.quiet_bin rfl rfl rfl (fun W => qb_neq_bool W _ _ _ _)) ?_
          refine Q.split (fun hb => by exfalso; revert hb; first | (simp; done) | (simp; omega)) (fun hb => ?_)
          refine W.op rfl rfl rfl (Go.Proofs.Ytobibplilbchfaa.W.quiet_pick rfl rfl rfl) ?_
          refine Q.nil (T.tw fun wq1 fq1 => ?_)
          replace bx1 := bx1.fr fq1 id
          replace hBk := Row.fr hBk fq1 (fun _ _ => id)
          replace hRe := Bools.fr hRe fq1 (fun _ _ => id)
          replace hA := Ints.fr hA fq1 (fun _ _ => id)
          replace ff := ff.trans fq1
          refine TW.cond rfl (fun hb => by cases hb) (fun _ => ?_)
          refine TW.skip ?_
          refine TW.sreg ?_
          refine WL.ld rfl rfl rfl rfl rfl (qlB_api_Proc _ _ _ _ _ _ _ _ _ _ _ _ _ bx1) ?_
          refine WL.op rfl rfl rfl (Go.Proofs.Ytobibplilbchfaa.W.quiet_move rfl rfl) ?_
          refine WL.call (hr := r_outs nm vd pr R oa on oc ba bs bc n hn2 _ (hbl.fr ff)) rfl rfl rfl rfl rfl (fun W => qk_rushlightref16_Outs W _) ?_
          rintro e w1 ⟨v0, rfl, hI0, f1⟩
          refine ⟨_, rfl, ?_⟩
          replace bx1 := bx1.fr f1 id
          replace hBk := Row.fr hBk f1 (fun _ _ => id)
          replace hRe := Bools.fr hRe f1 (fun _ _ => id)
          replace hA := Ints.fr hA f1 (fun _ _ => id)
          replace ff := ff.trans f1
          obtain ⟨ol, oc2, rfl, hO⟩ := hI0.at
          have hol := outsF_len bs n
          refine WL.op rfl rfl rfl (Go.Proofs.Ytobibplilbchfaa.W.quiet_assign rfl rfl) ?_
          refine WL.nil ?_
          refine TW.sreg ?_
          refine WL.op rfl rfl rfl (Go.Proofs.Ytobibplilbchfaa.W.quiet_assign rfl rfl) ?_
          refine WL.nil ?_
          refine TW.block ?_
          refine O.loopG (n := (outsF bs n).length) (fun a _ => (intOf (a.tmps.getD 11 undef)).toNat) (fun i a W => Kn Try.f4.ntmps [(1, .pointer (some ⟨w.heap.size, 0, none⟩)), (4, .slice ab (walkedF bs).back.length cb), (5, .slice (some ⟨gr, 0, none⟩) bs.length cr), (6, .slice (some ⟨wm.heap.size, 0, none⟩) bs.length bs.length), (9, .int .i64 (n : Int)), (10, .slice ol (outsF bs n).length oc2), (11, .int .i64 (i : Int))] a ∧ Fr (fun _ => False) w W ∧ Bx W w.heap.size #[.string nm, .bool vd, .int .i64 pr, .int .i64 R, .slice oa on oc, .slice ba bs.length bc] 25 ∧ Row B2 41 2 pC W (.slice ab (walkedF bs).back.length cb) (walkedF bs).back ∧ Bools B1 W (.slice (some ⟨gr, 0, none⟩) bs.length cr) (seenF bs (walkedF bs).left) ∧ Ints wm.heap.size W (.slice (some ⟨wm.heap.size, 0, none⟩) bs.length bs.length) (atF bs (ordF bs).length) ∧ IntsAt W ol (outsF bs n)) (fun i a W h => O.slotv h.1 rfl) 0 (Nat.zero_le _) (fun a k => ⟨(by (repeat (refine Kn.cons k rfl ?_)); exact k.base), ff, bx1, hBk, hRe, hA, hO⟩) ?_
          rintro i a wl3 hj ⟨k, ff, bx1, hBk, hRe, hA, hO⟩
          refine TW.app (s := [(1, .pointer (some ⟨w.heap.size, 0, none⟩)), (4, .slice ab (walkedF bs).back.length cb), (5, .slice (some ⟨gr, 0, none⟩) bs.length cr), (6, .slice (some ⟨wm.heap.size, 0, none⟩) bs.length bs.length), (9, .int .i64 (n : Int)), (10, .slice ol (outsF bs n).length oc2), (11, .int .i64 (i : Int))]) ?_ k
          refine TW.seq ?_
          refine TW.sreg ?_
          refine WL.op rfl rfl rfl (Go.Proofs.Ytobibplilbchfaa.W.quiet_move rfl rfl) ?_
          refine WL.op rfl rfl rfl (Go.Proofs.Ytobibplilbchfaa.W.quiet_move rfl rfl) ?_
          refine O.len rfl rfl rfl rfl rfl (qn_s_int _ _ _ _) ?_
          refine WL.op rfl rfl rfl (Go.Proofs.Ytobibplilbchfaa.W.quiet_bin rfl rfl rfl (fun W => qb_lss_int W _ _ _ _)) ?_
          refine O.split (fun hbi => ?_) (fun hbi => ?_)
          · skip
            have hi2 : i < (outsF bs n).length := by have := of_decide_eq_true hbi; omega
            have hcr := hRe.cell (k := n) (by rw [seen_len]; exact hn2)
            refine WL.op rfl rfl rfl (Go.Proofs.Ytobibplilbchfaa.W.quiet_move rfl rfl) ?_
            refine WL.op rfl rfl rfl (Go.Proofs.Ytobibplilbchfaa.W.quiet_move rfl rfl) ?_
            refine WL.op rfl rfl rfl (Go.Proofs.Ytobibplilbchfaa.W.quiet_move rfl rfl) ?_
            refine O.ixa rfl rfl rfl rfl rfl rfl (qi_s_bool _ _ _ _ _ _ (by omega)) ?_
            refine WL.ld rfl rfl rfl rfl rfl (ql_bool _ _ _ hcr) ?_
            refine O.split (fun hrn => ?_) (fun hrn => ?_)
            · skip
              obtain ⟨m, hmi, hmb, hmo⟩ := out_get hi2
              refine WL.op rfl rfl rfl (Go.Proofs.Ytobibplilbchfaa.W.quiet_pick rfl rfl rfl) ?_
              refine WL.nil ?_
              refine TW.cond rfl (fun _ => ?_) (fun hb => by cases hb)
              refine TW.skip ?_
              refine TW.seq ?_
              refine TW.block ?_
              refine TW.sreg ?_
              refine WL.op rfl rfl rfl (Go.Proofs.Ytobibplilbchfaa.W.quiet_assign rfl rfl) ?_
              refine WL.nil ?_
              refine TW.seq ?_
              refine TW.sreg ?_
              refine WL.op rfl rfl rfl (Go.Proofs.Ytobibplilbchfaa.W.quiet_assign rfl rfl) ?_
              refine WL.nil ?_
              refine TW.block ?_
              refine O.loopG (n := (walkedF bs).back.length) (fun a _ => (intOf (a.tmps.getD 13 undef)).toNat) (fun j a W => Kn Try.f4.ntmps [(1, .pointer (some ⟨w.heap.size, 0, none⟩)), (4, .slice ab (walkedF bs).back.length cb), (5, .slice (some ⟨gr, 0, none⟩) bs.length cr), (6, .slice (some ⟨wm.heap.size, 0, none⟩) bs.length bs.length), (9, .int .i64 (n : Int)), (10, .slice ol (outsF bs n).length oc2), (11, .int .i64 (i : Int)), (12, .bool (isF (walkedF bs).back ((n : Int), (m : Int)) j)), (13, .int .i64 (j : Int))] a ∧ Fr (fun _ => False) w W ∧ Bx W w.heap.size #[.string nm, .bool vd, .int .i64 pr, .int .i64 R, .slice oa on oc, .slice ba bs.length bc] 25 ∧ Row B2 41 2 pC W (.slice ab (walkedF bs).back.length cb) (walkedF bs).back ∧ Bools B1 W (.slice (some ⟨gr, 0, none⟩) bs.length cr) (seenF bs (walkedF bs).left) ∧ Ints wm.heap.size W (.slice (some ⟨wm.heap.size, 0, none⟩) bs.length bs.length) (atF bs (ordF bs).length) ∧ IntsAt W ol (outsF bs n)) (fun j a W h => O.slotv h.1 rfl) 0 (Nat.zero_le _) (fun a k => ⟨(by (repeat (refine Kn.cons k rfl ?_)); exact k.base), ff, bx1, hBk, hRe, hA, hO⟩) ?_
              rintro j a wl4 hj ⟨k, ff, bx1, hBk, hRe, hA, hO⟩
              refine TW.app (s := [(1, .pointer (some ⟨w.heap.size, 0, none⟩)), (4, .slice ab (walkedF bs).back.length cb), (5, .slice (some ⟨gr, 0, none⟩) bs.length cr), (6, .slice (some ⟨wm.heap.size, 0, none⟩) bs.length bs.length), (9, .int .i64 (n : Int)), (10, .slice ol (outsF bs n).length oc2), (11, .int .i64 (i : Int)), (12, .bool (isF (walkedF bs).back ((n : Int), (m : Int)) j)), (13, .int .i64 (j : Int))]) ?_ k
              refine TW.seq ?_
              refine TW.sreg ?_
              refine WL.op rfl rfl rfl (Go.Proofs.Ytobibplilbchfaa.W.quiet_move rfl rfl) ?_
              refine WL.op rfl rfl rfl (Go.Proofs.Ytobibplilbchfaa.W.quiet_move rfl rfl) ?_
              refine O.len rfl rfl rfl rfl rfl (qn_s_2_int _ _ _ _) ?_
              refine WL.op rfl rfl rfl (Go.Proofs.Ytobibplilbchfaa.W.quiet_bin rfl rfl rfl (fun W => qb_lss_int W _ _ _ _)) ?_
              refine O.split (fun hbj => ?_) (fun hbj => ?_)
              · skip
                have hj2 : j < (walkedF bs).back.length := by have := of_decide_eq_true hbj; omega
                obtain ⟨_, _, e1, hat1⟩ := Row.at2 hBk
                cases e1
                obtain ⟨gb, rfl, hd0, hd1⟩ := hat1 j hj2
                obtain ⟨_, _, e2, hat2⟩ := (⟨ol, oc2, rfl, hO⟩ : ∃ a c, Value.slice ol (outsF bs n).length oc2 = .slice a (outsF bs n).length c ∧ IntsAt _ a (outsF bs n))
                cases e2
                obtain ⟨gl, ol2, rfl, hco⟩ := hat2 i hi2
                rw [hmi] at hco
                refine WL.nil ?_
                refine TW.cond rfl (fun _ => ?_) (fun hb => by cases hb)
                refine TW.skip ?_
                refine TW.seq ?_
                refine TW.block ?_
                refine Q.reg (C := fun W => Fr (fun _ => False) wl4 W) (by kernel_rfl) (by kernel_rfl) (fun W h => h.drewN 1) (Fr.refl _ _) ?_
                refine W.op rfl rfl rfl (Go.Proofs.Ytobibplilbchfaa.W.quiet_move rfl rfl) ?_
                refine Q.split (fun his => ?_) (fun his => ?_)
                · skip
                  refine W.op rfl rfl rfl (Go.Proofs.Ytobibplilbchfaa.W.quiet_move rfl rfl) ?_
                  refine W.skip rfl rfl rfl ?_
                  refine W.skip rfl rfl rfl ?_
                  refine W.skip rfl rfl rfl ?_
                  refine W.skip rfl rfl rfl ?_
                  refine W.skip rfl rfl rfl ?_
                  refine W.skip rfl rfl rfl ?_
                  refine W.skip rfl rfl rfl ?_
                  refine W.skip rfl rfl rfl ?_
                  refine W.skip rfl rfl rfl ?_
                  refine W.skip rfl rfl rfl ?_
                  refine W.skip rfl rfl rfl ?_
                  refine W.op rfl rfl rfl (Go.Proofs.Ytobibplilbchfaa.W.quiet_pick rfl rfl rfl) ?_
                  refine W.op rfl rfl rfl (Go.Proofs.Ytobibplilbchfaa.W.quiet_assign rfl rfl) ?_
                  refine Q.end (fun wq2 fq2 => ?_)
                  replace bx1 := bx1.fr fq2 id
                  replace hBk := Row.fr hBk fq2 (fun _ _ => id)
                  replace hRe := Bools.fr hRe fq2 (fun _ _ => id)
                  replace hA := Ints.fr hA fq2 (fun _ _ => id)
                  replace hO := hO.fr fq2
                  replace ff := ff.trans fq2
                  refine Xw.nblk ?_
                  refine Xw.nrm ?_
                  refine TW.reg ?_
                  refine WL.op rfl rfl rfl (Go.Proofs.Ytobibplilbchfaa.W.quiet_move rfl rfl) ?_
                  refine WL.op rfl rfl rfl (Go.Proofs.Ytobibplilbchfaa.W.quiet_bin rfl rfl rfl (fun W => qb_add_int W _ _ _ _ (by omega) (by omega))) ?_
                  refine WL.op rfl rfl rfl (Go.Proofs.Ytobibplilbchfaa.W.quiet_assign rfl rfl) ?_
                  refine WL.end ?_
                  refine Xw.any (fun a k => ?_)
                  refine ⟨j + 1, by omega, by omega, ?_, ff, bx1, hBk, hRe, hA, hO⟩
                  rw [isF_yes his]
                  (repeat (refine Kn.cons k rfl ?_)); exact k.base
                · skip
                  refine W.op rfl rfl rfl (Go.Proofs.Ytobibplilbchfaa.W.quiet_move rfl rfl) ?_
                  refine W.op rfl rfl rfl (Go.Proofs.Ytobibplilbchfaa.W.quiet_move rfl rfl) ?_
                  refine W.op rfl rfl rfl (Go.Proofs.Ytobibplilbchfaa.W.quiet_move rfl rfl) ?_
                  refine W.op rfl rfl rfl (Go.Proofs.Ytobibplilbchfaa.W.quiet_index rfl rfl rfl (fun W => (qi_s_2_int _ _ _ _ _ _ (by omega)))) ?_
                  refine W.op rfl rfl rfl (Go.Proofs.Ytobibplilbchfaa.W.quiet_load rfl rfl (fun W hW => (ql_2_int _ _ _ _ _ (hW.cell hd0 id) (hW.cell hd1 id)))) ?_
                  refine W.op rfl rfl rfl (Go.Proofs.Ytobibplilbchfaa.W.quiet_move rfl rfl) ?_
                  refine W.op rfl rfl rfl (Go.Proofs.Ytobibplilbchfaa.W.quiet_move rfl rfl) ?_
                  refine W.op rfl rfl rfl (Go.Proofs.Ytobibplilbchfaa.W.quiet_move rfl rfl) ?_
                  refine W.op rfl rfl rfl (Go.Proofs.Ytobibplilbchfaa.W.quiet_index rfl rfl rfl (fun W => (qi_s_int _ _ _ _ _ _ (by omega)))) ?_
                  refine W.op rfl rfl rfl (Go.Proofs.Ytobibplilbchfaa.W.quiet_load rfl rfl (fun W hW => (ql_int _ _ _ (hW.cell hco id)))) ?_
                  refine W.op rfl rfl rfl (Q.bld rfl rfl (fun W hW => (qd_2_int_0_1 _ _ _))) ?_
                  refine W.op rfl rfl rfl (Go.Proofs.Ytobibplilbchfaa.W.quiet_bin rfl rfl rfl (fun W => eq_ar W _ _ _ _ _ _)) ?_
                  refine W.op rfl rfl rfl (Go.Proofs.Ytobibplilbchfaa.W.quiet_pick rfl rfl rfl) ?_
                  refine W.op rfl rfl rfl (Go.Proofs.Ytobibplilbchfaa.W.quiet_assign rfl rfl) ?_
                  refine Q.end (fun wq3 fq3 => ?_)
                  replace bx1 := bx1.fr fq3 id
                  replace hBk := Row.fr hBk fq3 (fun _ _ => id)
                  replace hRe := Bools.fr hRe fq3 (fun _ _ => id)
                  replace hA := Ints.fr hA fq3 (fun _ _ => id)
                  replace hO := hO.fr fq3
                  replace ff := ff.trans fq3
                  refine Xw.nblk ?_
                  refine Xw.nrm ?_
                  refine TW.reg ?_
                  refine WL.op rfl rfl rfl (Go.Proofs.Ytobibplilbchfaa.W.quiet_move rfl rfl) ?_
                  refine WL.op rfl rfl rfl (Go.Proofs.Ytobibplilbchfaa.W.quiet_bin rfl rfl rfl (fun W => qb_add_int W _ _ _ _ (by omega) (by omega))) ?_
                  refine WL.op rfl rfl rfl (Go.Proofs.Ytobibplilbchfaa.W.quiet_assign rfl rfl) ?_
                  refine WL.end ?_
                  refine Xw.any (fun a k => ?_)
                  refine ⟨j + 1, by omega, by omega, ?_, ff, bx1, hBk, hRe, hA, hO⟩
                  rw [isF_no hj2 his]
                  (repeat (refine Kn.cons k rfl ?_)); exact k.base
              · skip
                have hje : j = (walkedF bs).back.length := by have := of_decide_eq_false hbj; omega
                subst hje
                have hrk := round_ok hn2 hrn hmo
                obtain ⟨gl, ol2, rfl, hco⟩ := hO i hi2
                rw [hmi] at hco
                have hcm := hA.cell (k := m) (by rw [atF_len]; exact hmb)
                have hcn := hA.cell (k := n) (by rw [atF_len]; exact hn2)
                refine WL.nil ?_
                refine TW.cond rfl (fun hb => by cases hb) (fun _ => ?_)
                refine TW.exit ?_
                refine Xw.thn (by simp) ?_
                refine Xw.thn (by simp) ?_
                refine Xw.hit ?_
                refine Xw.nrm ?_
                refine Q.sreg (C := fun W => Fr (fun _ => False) wl4 W) (by kernel_rfl) (by kernel_rfl) (fun W h => h.drewN 1) (Fr.refl _ _) ?_
                refine W.op rfl rfl rfl (Go.Proofs.Ytobibplilbchfaa.W.quiet_move rfl rfl) ?_
                refine W.op rfl rfl rfl (Go.Proofs.Ytobibplilbchfaa.W.quiet_move rfl rfl) ?_
                refine W.op rfl rfl rfl (Go.Proofs.Ytobibplilbchfaa.W.quiet_move rfl rfl) ?_
                refine W.op rfl rfl rfl (Go.Proofs.Ytobibplilbchfaa.W.quiet_move rfl rfl) ?_
                refine W.op rfl rfl rfl (Go.Proofs.Ytobibplilbchfaa.W.quiet_index rfl rfl rfl (fun W => (qi_s_int _ _ _ _ _ _ (by omega)))) ?_
                refine W.op rfl rfl rfl (Go.Proofs.Ytobibplilbchfaa.W.quiet_load rfl rfl (fun W hW => (ql_int _ _ _ (hW.cell hco id)))) ?_
                refine W.op rfl rfl rfl (Go.Proofs.Ytobibplilbchfaa.W.quiet_index rfl rfl rfl (fun W => (qi_s_int _ _ _ _ _ _ (by omega)))) ?_
                refine W.op rfl rfl rfl (Go.Proofs.Ytobibplilbchfaa.W.quiet_load rfl rfl (fun W hW => (ql_int _ _ _ (hW.cell hcm id)))) ?_
                refine W.op rfl rfl rfl (Go.Proofs.Ytobibplilbchfaa.W.quiet_move rfl rfl) ?_
                refine W.op rfl rfl rfl (Go.Proofs.Ytobibplilbchfaa.W.quiet_move rfl rfl) ?_
                refine W.op rfl rfl rfl (Go.Proofs.Ytobibplilbchfaa.W.quiet_index rfl rfl rfl (fun W => (qi_s_int _ _ _ _ _ _ (by omega)))) ?_
                refine W.op rfl rfl rfl (Go.Proofs.Ytobibplilbchfaa.W.quiet_load rfl rfl (fun W hW => (ql_int _ _ _ (hW.cell hcn id)))) ?_
                refine W.op rfl rfl rfl (Go.Proofs.Ytobibplilbchfaa.W.quiet_bin rfl rfl rfl (fun W => qb_gtr_int W _ _ _ _)) ?_
                skip
                refine W.op rfl rfl rfl (Go.Proofs.Ytobibplilbchfaa.W.quiet_bin rfl rfl rfl (fun W => qb_eql_bool W _ _ _ _)) ?_
                refine Q.split (fun hb => (nb_no hrk hb).elim) (fun hb => ?_)
                refine Q.nil (T.tw fun wq4 fq4 => ?_)
                replace bx1 := bx1.fr fq4 id
                replace hBk := Row.fr hBk fq4 (fun _ _ => id)
                replace hRe := Bools.fr hRe fq4 (fun _ _ => id)
                replace hA := Ints.fr hA fq4 (fun _ _ => id)
                replace hO := hO.fr fq4
                replace ff := ff.trans fq4
                refine TW.cond rfl (fun hb => by cases hb) (fun _ => ?_)
                refine TW.skipx ?_
                refine Xw.nblk ?_
                refine Xw.nrm ?_
                refine TW.reg ?_
                refine WL.op rfl rfl rfl (Go.Proofs.Ytobibplilbchfaa.W.quiet_move rfl rfl) ?_
                refine WL.op rfl rfl rfl (Go.Proofs.Ytobibplilbchfaa.W.quiet_bin rfl rfl rfl (fun W => qb_add_int W _ _ _ _ (by omega) (by omega))) ?_
                refine WL.op rfl rfl rfl (Go.Proofs.Ytobibplilbchfaa.W.quiet_assign rfl rfl) ?_
                refine WL.end ?_
                refine Xw.any (fun a k => ?_)
                exact ⟨i + 1, by omega, by omega, (by (repeat (refine Kn.cons k rfl ?_)); exact k.base), ff, bx1, hBk, hRe, hA, hO⟩
            · skip
              refine WL.op rfl rfl rfl (Go.Proofs.Ytobibplilbchfaa.W.quiet_pick rfl rfl rfl) ?_
              refine WL.nil ?_
              refine TW.cond rfl (fun hb => by cases hb) (fun _ => ?_)
              refine TW.exit ?_
              refine Xw.thn (by simp) ?_
              refine Xw.thn (by simp) ?_
              refine Xw.hit ?_
              refine Xw.nblk ?_
              refine Xw.nrm ?_
              refine TW.reg ?_
              refine WL.op rfl rfl rfl (Go.Proofs.Ytobibplilbchfaa.W.quiet_move rfl rfl) ?_
              refine WL.op rfl rfl rfl (Go.Proofs.Ytobibplilbchfaa.W.quiet_bin rfl rfl rfl (fun W => qb_add_int W _ _ _ _ (by omega) (by omega))) ?_
              refine WL.op rfl rfl rfl (Go.Proofs.Ytobibplilbchfaa.W.quiet_assign rfl rfl) ?_
              refine WL.end ?_
              refine Xw.any (fun a k => ?_)
              exact ⟨n + 1, by omega, by omega, (by (repeat (refine Kn.cons k rfl ?_)); exact k.base), ff, bx1, hBk, hRe, hA⟩
          · skip
            refine WL.op rfl rfl rfl (Go.Proofs.Ytobibplilbchfaa.W.quiet_move rfl rfl) ?_
            refine WL.skip rfl rfl rfl ?_
            refine WL.skip rfl rfl rfl ?_
            refine WL.skip rfl rfl rfl ?_
            refine WL.skip rfl rfl rfl ?_
            refine WL.op rfl rfl rfl (Go.Proofs.Ytobibplilbchfaa.W.quiet_pick rfl rfl rfl) ?_
            refine WL.nil ?_
            refine TW.cond rfl (fun hb => by cases hb) (fun _ => ?_)
            refine TW.exit ?_
            refine Xw.thn (by simp) ?_
            refine Xw.thn (by simp) ?_
            refine Xw.hit ?_
            refine Xw.nblk ?_
            refine Xw.nrm ?_
            refine TW.reg ?_
            refine WL.op rfl rfl rfl (Go.Proofs.Ytobibplilbchfaa.W.quiet_move rfl rfl) ?_
            refine WL.op rfl rfl rfl (Go.Proofs.Ytobibplilbchfaa.W.quiet_bin rfl rfl rfl (fun W => qb_add_int W _ _ _ _ (by omega) (by omega))) ?_
            refine WL.op rfl rfl rfl (Go.Proofs.Ytobibplilbchfaa.W.quiet_assign rfl rfl) ?_
            refine WL.end ?_
            refine Xw.any (fun a k => ?_)
            exact ⟨n + 1, by omega, by omega, (by (repeat (refine Kn.cons k rfl ?_)); exact k.base), ff, bx1, hBk, hRe, hA⟩
        · skip
          refine WL.nil ?_
          refine TW.cond rfl (fun hb => by cases hb) (fun _ => ?_)
          refine TW.exit ?_
          refine Xw.thn (by simp) ?_
          refine Xw.thn (by simp) ?_
          refine Xw.hit ?_
          refine Xw.nrm ?_
          refine TW.sreg ?_
          refine WL.call (hr := t_awake _) rfl rfl rfl rfl rfl (fun W => qk_rushlightlaw16_awake W _) ?_
          rintro e wz ⟨rfl, fz⟩
          refine ⟨_, rfl, ?_⟩
          replace bx1 := bx1.fr fz id
          replace hBk := Row.fr hBk fz (fun _ _ => id)
          replace hRe := Bools.fr hRe fz (fun _ _ => id)
          replace hA := Ints.fr hA fz (fun _ _ => id)
          replace ff := ff.trans fz
          refine WL.op rfl rfl rfl (Go.Proofs.Ytobibplilbchfaa.W.quiet_assign rfl rfl) ?_
          refine WL.nil ?_
          refine TW.rt ?_
          refine bodyw_ret rfl rfl ?_
          exact ⟨rfl, ff⟩
end Go.Proofs.Ytobibplilbchfaa
