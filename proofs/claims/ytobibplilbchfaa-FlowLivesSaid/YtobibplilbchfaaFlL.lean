/-
  Flow (layer 16): what is reached, by the document.
-/
import Derived.Test.YtobibplilbchfaaFlK
import Derived.Test.YtobibplilbchfaaFlI
namespace Go.Proofs.Ytobibplilbchfaa
open Go.RowKit
set_option linter.unusedVariables false
set_option linter.unusedSimpArgs false
set_option linter.unnecessarySimpa false
theorem ql_bool (w : World) (p : Bool) (d : Addr) (h : w.cell? d = some (.bool p)) : (Instr.loadAt 4 (.pointer (some d))).run Try.prog w = .ok (.bool p) w := by simp [go_sem, h]
/-- A block that is reached. -/
inductive Rch (bs : List Bk) : Nat → Prop
  | zero : 0 < bs.length → Rch bs 0
  | step {k i : Nat} : Rch bs k → (outsF bs k).contains (i : Int) = true → Rch bs i
def Snd (bs : List Bk) (xs : List Bool) : Prop := ∀ k, k < bs.length → xs.getD k false = true → Rch bs k
def Fin_ (bs : List Bk) (xs : List Bool) : Prop := ∀ k, k < bs.length → (xs.getD k false = true ↔ Rch bs k)
def Le_ (xs ys : List Bool) : Prop := ∀ k, xs.getD k false = true → ys.getD k false = true
def RdI (bs : List Bk) (xs ys : List Bool) (i : Nat) : Prop := (i = 0 → ys.getD 0 false = true) ∧ ∀ k, k < bs.length → xs.getD k false = true → (outsF bs k).contains (i : Int) = true → ys.getD i false = true
def Prog (bs : List Bk) (r : Nat) (xs : List Bool) : Prop := Fin_ bs xs ∨ r ≤ xs.count true
theorem cnt_le : ∀ xs ys : List Bool, xs.length = ys.length → Le_ xs ys → xs.count true ≤ ys.count true ∧ (xs.count true = ys.count true → xs = ys)
  | [], [], _, _ => ⟨Nat.le_refl _, fun _ => rfl⟩
  | x :: xs, y :: ys, hl, h => by
    have h0 : x = true → y = true := fun e => by simpa using h 0 (by simpa using e)
    obtain ⟨h1, h2⟩ := cnt_le xs ys (by simpa using hl) (fun k e => by simpa using h (k + 1) (by simpa using e))
    rw [List.count_cons, List.count_cons]
    cases x <;> cases y
    · simp; exact ⟨h1, fun e => h2 e⟩
    · simp; exact ⟨by omega, fun e => by omega⟩
    · exact absurd (h0 rfl) (by decide)
    · simp; exact ⟨h1, fun e => h2 e⟩
theorem cnt_all : ∀ xs : List Bool, xs.length ≤ xs.count true → ∀ k, k < xs.length → xs.getD k false = true
  | [], _, k, hk => by simp at hk
  | x :: xs, h, k, hk => by
    have hc := List.count_le_length (a := true) (l := xs)
    rw [List.count_cons, List.length_cons] at h
    have hx : x = true := by
      cases x with
      | true => rfl
      | false => simp at h; omega
    subst hx
    cases k with
    | zero => rfl
    | succ k => simpa using cnt_all xs (by simp at h; omega) k (by simpa using hk)
theorem fin_of {bs : List Bk} {xs : List Bool} (hs : Snd bs xs) (h0 : 0 < bs.length → xs.getD 0 false = true) (hc : ∀ k i, k < bs.length → i < bs.length → xs.getD k false = true → (outsF bs k).contains (i : Int) = true → xs.getD i false = true) : Fin_ bs xs := by
  have key : ∀ k, Rch bs k → k < bs.length ∧ xs.getD k false = true := by
    intro k hk
    induction hk with
    | zero h => exact ⟨h, h0 h⟩
    | @step k i hk hi ih =>
      have hin : i < bs.length := by
        have := outsF_in (List.contains_iff_mem.1 hi)
        exact Int.ofNat_lt.1 this.2
      exact ⟨hin, hc _ _ ih.1 hin ih.2 hi⟩
  exact fun k hk => ⟨hs k hk, fun h => (key k h).2⟩
theorem prog_next {bs : List Bk} {r : Nat} {xs ys : List Bool} (h : Prog bs r xs) (hx : xs.length = bs.length) (hy : ys.length = bs.length) (hs : Snd bs ys) (hle : Le_ xs ys) (hr : ∀ i, i < bs.length → RdI bs xs ys i) : Prog bs (r + 1) ys := by
  rcases h with h | h
  · exact .inl fun k hk => ⟨hs k hk, fun q => hle k ((h k hk).2 q)⟩
  · obtain ⟨h1, h2⟩ := cnt_le xs ys (by omega) hle
    by_cases e : xs.count true = ys.count true
    · have e := h2 e
      subst e
      exact .inl (fin_of hs (fun h0 => (hr 0 h0).1 rfl) (fun k i hk hi h3 h4 => (hr i hi).2 k hk h3 h4))
    · exact .inr (by omega)
theorem prog_end {bs : List Bk} {xs : List Bool} (h : Prog bs bs.length xs) (hx : xs.length = bs.length) (hs : Snd bs xs) : Fin_ bs xs := by
  rcases h with h | h
  · exact h
  · exact fun k hk => ⟨hs k hk, fun _ => cnt_all xs (by omega) k (by omega)⟩
theorem getD_setB (xs : List Bool) (i k : Nat) (hi : i < xs.length) : (xs.set i true).getD k false = (if i = k then true else xs.getD k false) := by
  rw [List.getD_eq_getElem?_getD, List.getElem?_set, List.getD_eq_getElem?_getD]
  by_cases e : i = k
  · subst e; rw [if_pos rfl, if_pos hi, if_pos rfl]; rfl
  · rw [if_neg e, if_neg e]
theorem le_set {xs ys : List Bool} {i : Nat} (h : Le_ xs ys) (hi : i < ys.length) : Le_ xs (ys.set i true) := fun k hk => by
  rw [getD_setB ys i k hi]
  split
  · rfl
  · exact h k hk
theorem snd_set {bs : List Bk} {ys : List Bool} {i : Nat} (h : Snd bs ys) (hi : i < ys.length) (hr : Rch bs i) : Snd bs (ys.set i true) := fun k hk q => by
  rw [getD_setB ys i k hi] at q
  by_cases e : i = k
  · rw [← e]; exact hr
  · rw [if_neg e] at q; exact h k hk q
theorem rd_set {bs : List Bk} {xs ys : List Bool} {i j : Nat} (h : RdI bs xs ys j) (hi : i < ys.length) : RdI bs xs (ys.set i true) j := by
  refine ⟨fun e => ?_, fun k hk h1 h2 => ?_⟩
  · rw [getD_setB ys i 0 hi]; split; rfl; exact h.1 e
  · rw [getD_setB ys i j hi]; split; rfl; exact h.2 k hk h1 h2
theorem rep_getD (n k : Nat) : (List.replicate n false).getD k false = false := by
  rw [List.getD_eq_getElem?_getD, List.getElem?_replicate]
  split <;> rfl
theorem set_self {ys : List Bool} {i : Nat} (hi : i < ys.length) : (ys.set i true).getD i false = true := by rw [getD_setB ys i i hi, if_pos rfl]
set_option maxRecDepth 100000 in
theorem r_reach (nm : ByteArray) (vd : Bool) (pr R : Int) (oa : Option Addr) (on oc : Nat) (ba : Option Addr) (bs : List Bk) (bc : Nat) (hnb : bs.length ≤ 1000) (w : World) (hbl : BkL w ba bs) : Calls Try.prog 11 #[.agg #[.string nm, .bool vd, .int .i64 pr, .int .i64 R, .slice oa on oc, .slice ba bs.length bc]] w fun e w' => ∃ (B g c : Nat) (xs : List Bool), e = .returned (.slice (some ⟨g, 0, none⟩) bs.length c) ∧ Bools B w' (.slice (some ⟨g, 0, none⟩) bs.length c) xs ∧ xs.length = bs.length ∧ Fin_ bs xs ∧ Fr (fun _ => False) w w' := by
  have ff := Fr.refl (fun _ => False) w
  refine calls_tw Try.func11 rfl rfl (Nat.le_of_ble_eq_true rfl) ?_
  refine TW.sreg ?_
  have lw1 := ff.size
  refine O.boxR rfl rfl rfl rfl rfl (qxR_api_Proc w _ _ _ _ _ _ _ _ _ _) ?_
  rintro wa1 ⟨fa1, bx1⟩
  replace ff := ff.trans fa1
  refine WL.op rfl rfl rfl (Go.Proofs.Ytobibplilbchfaa.W.quiet_assign rfl rfl) ?_
  refine WL.nil ?_
  refine TW.sreg ?_
  refine WL.op rfl rfl rfl (Go.Proofs.Ytobibplilbchfaa.W.quiet_field rfl rfl (fun W => (qa_api_Proc_5 W _ _))) ?_
  refine WL.ld rfl rfl rfl rfl rfl (ql_s_api_Block _ _ _ _ _ (bx1.cell (j := 5) rfl)) ?_
  refine O.len rfl rfl rfl rfl rfl (qn_s_api_Block _ _ _ _) ?_
  have lt2_bx1 := bx1.lt
  have lw2 := ff.size
  refine O.mkR rfl rfl rfl rfl rfl rfl (mk_b bs.length (by omega) _) ?_
  rintro wa2 ⟨fa2, bx2⟩
  replace bx1 := bx1.fr fa2 id
  replace ff := ff.trans fa2
  have hB := bools_made (B := wa1.heap.size) bx2 (Nat.le_refl _) (by omega)
  have hws := lt2_bx1
  refine WL.op rfl rfl rfl (Go.Proofs.Ytobibplilbchfaa.W.quiet_assign rfl rfl) ?_
  refine WL.nil ?_
  refine TW.seq ?_
  refine TW.sreg ?_
  refine WL.op rfl rfl rfl (Go.Proofs.Ytobibplilbchfaa.W.quiet_assign rfl rfl) ?_
  refine WL.nil ?_
  refine TW.block ?_
  refine O.loopG (n := bs.length) (fun a _ => (intOf (a.tmps.getD 4 undef)).toNat) (fun r a W => ∃ (xs : List Bool), Kn Try.f11.ntmps [(1, .pointer (some ⟨w.heap.size, 0, none⟩)), (3, .slice (some ⟨wa1.heap.size, 0, none⟩) bs.length bs.length), (4, .int .i64 (r : Int))] a ∧ Fr (fun _ => False) w W ∧ Bx W w.heap.size #[.string nm, .bool vd, .int .i64 pr, .int .i64 R, .slice oa on oc, .slice ba bs.length bc] 25 ∧ Bools wa1.heap.size W (.slice (some ⟨wa1.heap.size, 0, none⟩) bs.length bs.length) xs ∧ xs.length = bs.length ∧ Snd bs xs ∧ Prog bs r xs) (fun r a W h => by obtain ⟨_, h⟩ := h; exact O.slotv h.1 rfl) 0 (Nat.zero_le _) (fun a k => ⟨_, (by (repeat (refine Kn.cons k rfl ?_)); exact k.base), ff, bx1, hB, by simp, fun k hk h => absurd h (by rw [rep_getD]; decide), .inr (Nat.zero_le _)⟩) ?_
  rintro r a wr hj ⟨xs, k, ff, bx1, hB, hxl, hsn, hpg⟩
  refine TW.app (s := [(1, .pointer (some ⟨w.heap.size, 0, none⟩)), (3, .slice (some ⟨wa1.heap.size, 0, none⟩) bs.length bs.length), (4, .int .i64 (r : Int))]) ?_ k
  refine TW.seq ?_
  refine TW.sreg ?_
  refine WL.op rfl rfl rfl (Go.Proofs.Ytobibplilbchfaa.W.quiet_move rfl rfl) ?_
  refine WL.op rfl rfl rfl (Go.Proofs.Ytobibplilbchfaa.W.quiet_field rfl rfl (fun W => (qa_api_Proc_5 W _ _))) ?_
  refine WL.ld rfl rfl rfl rfl rfl (ql_s_api_Block _ _ _ _ _ (bx1.cell (j := 5) rfl)) ?_
  refine O.len rfl rfl rfl rfl rfl (qn_s_api_Block _ _ _ _) ?_
  refine WL.op rfl rfl rfl (Go.Proofs.Ytobibplilbchfaa.W.quiet_bin rfl rfl rfl (fun W => qb_lss_int W _ _ _ _)) ?_
  refine O.split (fun hbr => ?_) (fun hbr => ?_)
  · skip
    have hr2 : r < bs.length := by have := of_decide_eq_true hbr; omega
    refine WL.nil ?_
    refine TW.cond rfl (fun _ => ?_) (fun hb => by cases hb)
    refine TW.skip ?_
    refine TW.seq ?_
    refine TW.block ?_
    refine TW.sreg ?_
    refine WL.op rfl rfl rfl (Go.Proofs.Ytobibplilbchfaa.W.quiet_assign rfl rfl) ?_
    refine WL.nil ?_
    refine TW.block ?_
    refine O.loopG (n := bs.length) (fun a _ => (intOf (a.tmps.getD 5 undef)).toNat) (fun i a W => ∃ (ys : List Bool), Kn Try.f11.ntmps [(1, .pointer (some ⟨w.heap.size, 0, none⟩)), (3, .slice (some ⟨wa1.heap.size, 0, none⟩) bs.length bs.length), (4, .int .i64 (r : Int)), (5, .int .i64 (i : Int))] a ∧ Fr (fun _ => False) w W ∧ Bx W w.heap.size #[.string nm, .bool vd, .int .i64 pr, .int .i64 R, .slice oa on oc, .slice ba bs.length bc] 25 ∧ Bools wa1.heap.size W (.slice (some ⟨wa1.heap.size, 0, none⟩) bs.length bs.length) ys ∧ ys.length = bs.length ∧ Snd bs ys ∧ Le_ xs ys ∧ ∀ i2, i2 < i → RdI bs xs ys i2) (fun i a W h => by obtain ⟨_, h⟩ := h; exact O.slotv h.1 rfl) 0 (Nat.zero_le _) (fun a k => ⟨_, (by (repeat (refine Kn.cons k rfl ?_)); exact k.base), ff, bx1, hB, hxl, hsn, fun _ h => h, fun k hk => absurd hk (by omega)⟩) ?_
    rintro i a wi hj ⟨ys, k, ff, bx1, hB, hyl, hsn, hle, hrd⟩
    refine TW.app (s := [(1, .pointer (some ⟨w.heap.size, 0, none⟩)), (3, .slice (some ⟨wa1.heap.size, 0, none⟩) bs.length bs.length), (4, .int .i64 (r : Int)), (5, .int .i64 (i : Int))]) ?_ k
    refine TW.seq ?_
    refine TW.sreg ?_
    refine WL.op rfl rfl rfl (Go.Proofs.Ytobibplilbchfaa.W.quiet_move rfl rfl) ?_
    refine WL.op rfl rfl rfl (Go.Proofs.Ytobibplilbchfaa.W.quiet_field rfl rfl (fun W => (qa_api_Proc_5 W _ _))) ?_
    refine WL.ld rfl rfl rfl rfl rfl (ql_s_api_Block _ _ _ _ _ (bx1.cell (j := 5) rfl)) ?_
    refine O.len rfl rfl rfl rfl rfl (qn_s_api_Block _ _ _ _) ?_
    refine WL.op rfl rfl rfl (Go.Proofs.Ytobibplilbchfaa.W.quiet_bin rfl rfl rfl (fun W => qb_lss_int W _ _ _ _)) ?_
    refine O.split (fun hbi => ?_) (fun hbi => ?_)
    · skip
      have hi2 : i < bs.length := by have := of_decide_eq_true hbi; omega
      refine WL.nil ?_
      refine TW.cond rfl (fun _ => ?_) (fun hb => by cases hb)
      refine TW.skip ?_
      refine TW.seq ?_
      refine TW.block ?_
      refine TW.seq ?_
      refine TW.sreg ?_
      refine WL.op rfl rfl rfl (Go.Proofs.Ytobibplilbchfaa.W.quiet_move rfl rfl) ?_
      refine WL.op rfl rfl rfl (Go.Proofs.Ytobibplilbchfaa.W.quiet_bin rfl rfl rfl (fun W => qb_eql_int W _ _ _ _)) ?_
      refine O.split (fun hb4 => ?_) (fun hb4 => ?_)
      · skip
        have hiz : (i : Int) = 0 := by simpa using hb4
        have hi0 : i = 0 := by omega
        refine WL.nil ?_
        refine TW.cond rfl (fun _ => ?_) (fun hb => by cases hb)
        refine TW.reg ?_
        refine WL.op rfl rfl rfl (Go.Proofs.Ytobibplilbchfaa.W.quiet_move rfl rfl) ?_
        refine WL.op rfl rfl rfl (Go.Proofs.Ytobibplilbchfaa.W.quiet_move rfl rfl) ?_
        refine O.ixa rfl rfl rfl rfl rfl rfl (qi_s_bool _ _ _ _ _ _ (by omega)) ?_
        refine O.storeR rfl rfl rfl rfl rfl (hB.store (k := i) (by omega) true) ?_
        rintro w5 ⟨hB2, hFs⟩
        replace bx1 := bx1.fr hFs (fun e => by omega)
        replace ff := ff.trans' hFs (fun q hq e => by omega)
        have hil : i < ys.length := by omega
        replace hB := hB2
        replace hle := le_set hle hil
        replace hsn := snd_set hsn hil (by rw [hi0]; exact .zero (by omega))
        have hyl2 := hyl
        replace hyl : (ys.set i true).length = bs.length := by rw [List.length_set]; exact hyl
        replace hrd : ∀ i2, i2 < i → RdI bs xs (ys.set i true) i2 := fun i2 h => rd_set (hrd i2 h) hil
        have h00 : i = 0 → (ys.set i true).getD 0 false = true := fun e => by have h := set_self (ys := ys) hil; rw [hi0] at h ⊢; exact h
        refine WL.nil ?_
        refine TW.sreg ?_
        refine WL.op rfl rfl rfl (Go.Proofs.Ytobibplilbchfaa.W.quiet_assign rfl rfl) ?_
        refine WL.nil ?_
        refine TW.block ?_
        refine O.loopG (n := bs.length) (fun a _ => (intOf (a.tmps.getD 6 undef)).toNat) (fun q a W => ∃ (zs : List Bool), Kn Try.f11.ntmps [(1, .pointer (some ⟨w.heap.size, 0, none⟩)), (3, .slice (some ⟨wa1.heap.size, 0, none⟩) bs.length bs.length), (4, .int .i64 (r : Int)), (5, .int .i64 (i : Int)), (6, .int .i64 (q : Int))] a ∧ Fr (fun _ => False) w W ∧ Bx W w.heap.size #[.string nm, .bool vd, .int .i64 pr, .int .i64 R, .slice oa on oc, .slice ba bs.length bc] 25 ∧ Bools wa1.heap.size W (.slice (some ⟨wa1.heap.size, 0, none⟩) bs.length bs.length) zs ∧ zs.length = bs.length ∧ Snd bs zs ∧ Le_ xs zs ∧ (∀ i2, i2 < i → RdI bs xs zs i2) ∧ (i = 0 → zs.getD 0 false = true) ∧ ∀ k, k < q → xs.getD k false = true → (outsF bs k).contains (i : Int) = true → zs.getD i false = true) (fun q a W h => by obtain ⟨_, h⟩ := h; exact O.slotv h.1 rfl) 0 (Nat.zero_le _) (fun a k => ⟨_, (by (repeat (refine Kn.cons k rfl ?_)); exact k.base), ff, bx1, hB, hyl, hsn, hle, hrd, h00, fun k hk => absurd hk (by omega)⟩) ?_
        rintro q a wk hj ⟨zs, k, ff, bx1, hB, hyl, hsn, hle, hrd, h00, hqq⟩
        refine TW.app (s := [(1, .pointer (some ⟨w.heap.size, 0, none⟩)), (3, .slice (some ⟨wa1.heap.size, 0, none⟩) bs.length bs.length), (4, .int .i64 (r : Int)), (5, .int .i64 (i : Int)), (6, .int .i64 (q : Int))]) ?_ k
        refine TW.seq ?_
        refine TW.sreg ?_
        refine WL.op rfl rfl rfl (Go.Proofs.Ytobibplilbchfaa.W.quiet_move rfl rfl) ?_
        refine WL.op rfl rfl rfl (Go.Proofs.Ytobibplilbchfaa.W.quiet_field rfl rfl (fun W => (qa_api_Proc_5 W _ _))) ?_
        refine WL.ld rfl rfl rfl rfl rfl (ql_s_api_Block _ _ _ _ _ (bx1.cell (j := 5) rfl)) ?_
        refine O.len rfl rfl rfl rfl rfl (qn_s_api_Block _ _ _ _) ?_
        refine WL.op rfl rfl rfl (Go.Proofs.Ytobibplilbchfaa.W.quiet_bin rfl rfl rfl (fun W => qb_lss_int W _ _ _ _)) ?_
        refine O.split (fun hbq => ?_) (fun hbq => ?_)
        · skip
          have hq2 : q < bs.length := by have := of_decide_eq_true hbq; omega
          refine WL.nil ?_
          refine TW.cond rfl (fun _ => ?_) (fun hb => by cases hb)
          refine TW.skip ?_
          refine TW.seq ?_
          refine TW.block ?_
          refine TW.sreg ?_
          refine WL.op rfl rfl rfl (Go.Proofs.Ytobibplilbchfaa.W.quiet_move rfl rfl) ?_
          refine WL.op rfl rfl rfl (Go.Proofs.Ytobibplilbchfaa.W.quiet_move rfl rfl) ?_
          refine O.ixa rfl rfl rfl rfl rfl rfl (qi_s_bool _ _ _ _ _ _ (by omega)) ?_
          refine WL.ld rfl rfl rfl rfl rfl (ql_bool _ _ _ (hB.cell (k := q) (by omega))) ?_
          refine O.split (fun hb5 => ?_) (fun hb5 => ?_)
          · skip
            refine WL.op rfl rfl rfl (Go.Proofs.Ytobibplilbchfaa.W.quiet_move rfl rfl) ?_
            refine WL.ld rfl rfl rfl rfl rfl (qlB_api_Proc _ _ _ _ _ _ _ _ _ _ _ _ _ bx1) ?_
            refine WL.op rfl rfl rfl (Go.Proofs.Ytobibplilbchfaa.W.quiet_move rfl rfl) ?_
            refine WL.op rfl rfl rfl (Go.Proofs.Ytobibplilbchfaa.W.quiet_move rfl rfl) ?_
            refine WL.call (hr := r_leads nm vd pr R oa on oc ba bs bc q hq2 (i : Int) _ (hbl.fr ff)) rfl rfl rfl rfl rfl (fun W => qk_rushlightref16_leads W _) ?_
            rintro e w1 ⟨rfl, f1⟩
            refine ⟨_, rfl, ?_⟩
            replace bx1 := bx1.fr f1 id
            replace hB := hB.fr f1 (fun _ _ => id)
            replace ff := ff.trans f1
            refine O.split (fun hb6 => ?_) (fun hb6 => ?_)
            · skip
              refine WL.op rfl rfl rfl (Go.Proofs.Ytobibplilbchfaa.W.quiet_pick rfl rfl rfl) ?_
              refine WL.nil ?_
              refine TW.cond rfl (fun _ => ?_) (fun hb => by cases hb)
              refine TW.reg ?_
              refine WL.op rfl rfl rfl (Go.Proofs.Ytobibplilbchfaa.W.quiet_move rfl rfl) ?_
              refine WL.op rfl rfl rfl (Go.Proofs.Ytobibplilbchfaa.W.quiet_move rfl rfl) ?_
              refine O.ixa rfl rfl rfl rfl rfl rfl (qi_s_bool _ _ _ _ _ _ (by omega)) ?_
              refine O.storeR rfl rfl rfl rfl rfl (hB.store (k := i) (by omega) true) ?_
              rintro w5 ⟨hB2, hFs⟩
              replace bx1 := bx1.fr hFs (fun e => by omega)
              replace ff := ff.trans' hFs (fun q hq e => by omega)
              have hil : i < zs.length := by omega
              refine WL.end ?_
              refine Xw.nblk ?_
              refine Xw.nrm ?_
              refine TW.reg ?_
              refine WL.op rfl rfl rfl (Go.Proofs.Ytobibplilbchfaa.W.quiet_move rfl rfl) ?_
              refine WL.op rfl rfl rfl (Go.Proofs.Ytobibplilbchfaa.W.quiet_bin rfl rfl rfl (fun W => qb_add_int W _ _ _ _ (by omega) (by omega))) ?_
              refine WL.op rfl rfl rfl (Go.Proofs.Ytobibplilbchfaa.W.quiet_assign rfl rfl) ?_
              refine WL.end ?_
              refine Xw.any (fun a k => ?_)
              refine ⟨q + 1, by omega, by omega, zs.set i true, (by (repeat (refine Kn.cons k rfl ?_)); exact k.base), ff, bx1, hB2, by rw [List.length_set]; exact hyl, snd_set hsn hil (.step (hsn q hq2 hb5) hb6), le_set hle hil, fun i2 h2 => rd_set (hrd i2 h2) hil, fun e => ?_, fun k hk h1 h2 => set_self hil⟩
              rw [getD_setB zs i 0 hil, h00 e]
              split <;> rfl
            · skip
              refine WL.op rfl rfl rfl (Go.Proofs.Ytobibplilbchfaa.W.quiet_pick rfl rfl rfl) ?_
              refine WL.nil ?_
              refine TW.cond rfl (fun hb => by cases hb) (fun _ => ?_)
              refine TW.skipx ?_
              refine Xw.nblk ?_
              refine Xw.nrm ?_
              refine TW.reg ?_
              refine WL.op rfl rfl rfl (Go.Proofs.Ytobibplilbchfaa.W.quiet_move rfl rfl) ?_
              refine WL.op rfl rfl rfl (Go.Proofs.Ytobibplilbchfaa.W.quiet_bin rfl rfl rfl (fun W => qb_add_int W _ _ _ _ (by omega) (by omega))) ?_
              refine WL.op rfl rfl rfl (Go.Proofs.Ytobibplilbchfaa.W.quiet_assign rfl rfl) ?_
              refine WL.end ?_
              refine Xw.any (fun a k => ?_)
              refine ⟨q + 1, by omega, by omega, zs, (by (repeat (refine Kn.cons k rfl ?_)); exact k.base), ff, bx1, hB, hyl, hsn, hle, hrd, h00, fun k9 hk h1 h2 => ?_⟩
              by_cases e : k9 = q
              · rw [e] at h1 h2; first | exact absurd (hle q h1) (by rw [hb5]; decide) | exact absurd h2 (by rw [hb6]; decide)
              · exact hqq k9 (by omega) h1 h2
          · skip
            refine WL.op rfl rfl rfl (Go.Proofs.Ytobibplilbchfaa.W.quiet_move rfl rfl) ?_
            refine WL.skip rfl rfl rfl ?_
            refine WL.skip rfl rfl rfl ?_
            refine WL.skip rfl rfl rfl ?_
            refine WL.skip rfl rfl rfl ?_
            refine WL.op rfl rfl rfl (Go.Proofs.Ytobibplilbchfaa.W.quiet_pick rfl rfl rfl) ?_
            refine WL.nil ?_
            refine TW.cond rfl (fun hb => by cases hb) (fun _ => ?_)
            refine TW.skipx ?_
            refine Xw.nblk ?_
            refine Xw.nrm ?_
            refine TW.reg ?_
            refine WL.op rfl rfl rfl (Go.Proofs.Ytobibplilbchfaa.W.quiet_move rfl rfl) ?_
            refine WL.op rfl rfl rfl (Go.Proofs.Ytobibplilbchfaa.W.quiet_bin rfl rfl rfl (fun W => qb_add_int W _ _ _ _ (by omega) (by omega))) ?_
            refine WL.op rfl rfl rfl (Go.Proofs.Ytobibplilbchfaa.W.quiet_assign rfl rfl) ?_
            refine WL.end ?_
            refine Xw.any (fun a k => ?_)
            refine ⟨q + 1, by omega, by omega, zs, (by (repeat (refine Kn.cons k rfl ?_)); exact k.base), ff, bx1, hB, hyl, hsn, hle, hrd, h00, fun k9 hk h1 h2 => ?_⟩
            by_cases e : k9 = q
            · rw [e] at h1 h2; first | exact absurd (hle q h1) (by rw [hb5]; decide) | exact absurd h2 (by rw [hb6]; decide)
            · exact hqq k9 (by omega) h1 h2
        · skip
          refine WL.nil ?_
          refine TW.cond rfl (fun hb => by cases hb) (fun _ => ?_)
          refine TW.exit ?_
          refine Xw.thn (by simp) ?_
          refine Xw.thn (by simp) ?_
          refine Xw.hit ?_
          refine Xw.nblk ?_
          refine Xw.nrm ?_
          refine TW.reg ?_
          refine WL.op rfl rfl rfl (Go.Proofs.Ytobibplilbchfaa.W.quiet_move rfl rfl) ?_
          refine WL.op rfl rfl rfl (Go.Proofs.Ytobibplilbchfaa.W.quiet_bin rfl rfl rfl (fun W => qb_add_int W _ _ _ _ (by omega) (by omega))) ?_
          refine WL.op rfl rfl rfl (Go.Proofs.Ytobibplilbchfaa.W.quiet_assign rfl rfl) ?_
          refine WL.end ?_
          refine Xw.any (fun a k => ?_)
          have hje : q = bs.length := by have := of_decide_eq_false hbq; omega
          subst hje
          refine ⟨i + 1, by omega, by omega, zs, (by (repeat (refine Kn.cons k rfl ?_)); exact k.base), ff, bx1, hB, hyl, hsn, hle, fun i2 h2 => ?_⟩
          by_cases e : i2 = i
          · subst e; exact ⟨h00, fun k hk h1 h2 => hqq k hk h1 h2⟩
          · exact hrd i2 (by omega)
      · skip
        have h00 : i = 0 → ys.getD 0 false = true := fun e => absurd (show (i : Int) = 0 by omega) (by simpa using hb4)
        refine WL.nil ?_
        refine TW.cond rfl (fun hb => by cases hb) (fun _ => ?_)
        refine TW.skip ?_
        refine TW.sreg ?_
        refine WL.op rfl rfl rfl (Go.Proofs.Ytobibplilbchfaa.W.quiet_assign rfl rfl) ?_
        refine WL.nil ?_
        refine TW.block ?_
        refine O.loopG (n := bs.length) (fun a _ => (intOf (a.tmps.getD 6 undef)).toNat) (fun q a W => ∃ (zs : List Bool), Kn Try.f11.ntmps [(1, .pointer (some ⟨w.heap.size, 0, none⟩)), (3, .slice (some ⟨wa1.heap.size, 0, none⟩) bs.length bs.length), (4, .int .i64 (r : Int)), (5, .int .i64 (i : Int)), (6, .int .i64 (q : Int))] a ∧ Fr (fun _ => False) w W ∧ Bx W w.heap.size #[.string nm, .bool vd, .int .i64 pr, .int .i64 R, .slice oa on oc, .slice ba bs.length bc] 25 ∧ Bools wa1.heap.size W (.slice (some ⟨wa1.heap.size, 0, none⟩) bs.length bs.length) zs ∧ zs.length = bs.length ∧ Snd bs zs ∧ Le_ xs zs ∧ (∀ i2, i2 < i → RdI bs xs zs i2) ∧ (i = 0 → zs.getD 0 false = true) ∧ ∀ k, k < q → xs.getD k false = true → (outsF bs k).contains (i : Int) = true → zs.getD i false = true) (fun q a W h => by obtain ⟨_, h⟩ := h; exact O.slotv h.1 rfl) 0 (Nat.zero_le _) (fun a k => ⟨_, (by (repeat (refine Kn.cons k rfl ?_)); exact k.base), ff, bx1, hB, hyl, hsn, hle, hrd, h00, fun k hk => absurd hk (by omega)⟩) ?_
        rintro q a wk hj ⟨zs, k, ff, bx1, hB, hyl, hsn, hle, hrd, h00, hqq⟩
        refine TW.app (s := [(1, .pointer (some ⟨w.heap.size, 0, none⟩)), (3, .slice (some ⟨wa1.heap.size, 0, none⟩) bs.length bs.length), (4, .int .i64 (r : Int)), (5, .int .i64 (i : Int)), (6, .int .i64 (q : Int))]) ?_ k
        refine TW.seq ?_
        refine TW.sreg ?_
        refine WL.op rfl rfl rfl (Go.Proofs.Ytobibplilbchfaa.W.quiet_move rfl rfl) ?_
        refine WL.op rfl rfl rfl (Go.Proofs.Ytobibplilbchfaa.W.quiet_field rfl rfl (fun W => (qa_api_Proc_5 W _ _))) ?_
        refine WL.ld rfl rfl rfl rfl rfl (ql_s_api_Block _ _ _ _ _ (bx1.cell (j := 5) rfl)) ?_
        refine O.len rfl rfl rfl rfl rfl (qn_s_api_Block _ _ _ _) ?_
        refine WL.op rfl rfl rfl (Go.Proofs.Ytobibplilbchfaa.W.quiet_bin rfl rfl rfl (fun W => qb_lss_int W _ _ _ _)) ?_
        refine O.split (fun hbq => ?_) (fun hbq => ?_)
        · skip
          have hq2 : q < bs.length := by have := of_decide_eq_true hbq; omega
          refine WL.nil ?_
          refine TW.cond rfl (fun _ => ?_) (fun hb => by cases hb)
          refine TW.skip ?_
          refine TW.seq ?_
          refine TW.block ?_
          refine TW.sreg ?_
          refine WL.op rfl rfl rfl (Go.Proofs.Ytobibplilbchfaa.W.quiet_move rfl rfl) ?_
          refine WL.op rfl rfl rfl (Go.Proofs.Ytobibplilbchfaa.W.quiet_move rfl rfl) ?_
          refine O.ixa rfl rfl rfl rfl rfl rfl (qi_s_bool _ _ _ _ _ _ (by omega)) ?_
          refine WL.ld rfl rfl rfl rfl rfl (ql_bool _ _ _ (hB.cell (k := q) (by omega))) ?_
          refine O.split (fun hb5 => ?_) (fun hb5 => ?_)
          · skip
            refine WL.op rfl rfl rfl (Go.Proofs.Ytobibplilbchfaa.W.quiet_move rfl rfl) ?_
            refine WL.ld rfl rfl rfl rfl rfl (qlB_api_Proc _ _ _ _ _ _ _ _ _ _ _ _ _ bx1) ?_
            refine WL.op rfl rfl rfl (Go.Proofs.Ytobibplilbchfaa.W.quiet_move rfl rfl) ?_
            refine WL.op rfl rfl rfl (Go.Proofs.Ytobibplilbchfaa.W.quiet_move rfl rfl) ?_
            refine WL.call (hr := r_leads nm vd pr R oa on oc ba bs bc q hq2 (i : Int) _ (hbl.fr ff)) rfl rfl rfl rfl rfl (fun W => qk_rushlightref16_leads W _) ?_
            rintro e w1 ⟨rfl, f1⟩
            refine ⟨_, rfl, ?_⟩
            replace bx1 := bx1.fr f1 id
            replace hB := hB.fr f1 (fun _ _ => id)
            replace ff := ff.trans f1
            refine O.split (fun hb6 => ?_) (fun hb6 => ?_)
            · skip
              refine WL.op rfl rfl rfl (Go.Proofs.Ytobibplilbchfaa.W.quiet_pick rfl rfl rfl) ?_
              refine WL.nil ?_
              refine TW.cond rfl (fun _ => ?_) (fun hb => by cases hb)
              refine TW.reg ?_
              refine WL.op rfl rfl rfl (Go.Proofs.Ytobibplilbchfaa.W.quiet_move rfl rfl) ?_
              refine WL.op rfl rfl rfl (Go.Proofs.Ytobibplilbchfaa.W.quiet_move rfl rfl) ?_
              refine O.ixa rfl rfl rfl rfl rfl rfl (qi_s_bool _ _ _ _ _ _ (by omega)) ?_
              refine O.storeR rfl rfl rfl rfl rfl (hB.store (k := i) (by omega) true) ?_
              rintro w5 ⟨hB2, hFs⟩
              replace bx1 := bx1.fr hFs (fun e => by omega)
              replace ff := ff.trans' hFs (fun q hq e => by omega)
              have hil : i < zs.length := by omega
              refine WL.end ?_
              refine Xw.nblk ?_
              refine Xw.nrm ?_
              refine TW.reg ?_
              refine WL.op rfl rfl rfl (Go.Proofs.Ytobibplilbchfaa.W.quiet_move rfl rfl) ?_
              refine WL.op rfl rfl rfl (Go.Proofs.Ytobibplilbchfaa.W.quiet_bin rfl rfl rfl (fun W => qb_add_int W _ _ _ _ (by omega) (by omega))) ?_
              refine WL.op rfl rfl rfl (Go.Proofs.Ytobibplilbchfaa.W.quiet_assign rfl rfl) ?_
              refine WL.end ?_
              refine Xw.any (fun a k => ?_)
              refine ⟨q + 1, by omega, by omega, zs.set i true, (by (repeat (refine Kn.cons k rfl ?_)); exact k.base), ff, bx1, hB2, by rw [List.length_set]; exact hyl, snd_set hsn hil (.step (hsn q hq2 hb5) hb6), le_set hle hil, fun i2 h2 => rd_set (hrd i2 h2) hil, fun e => ?_, fun k hk h1 h2 => set_self hil⟩
              rw [getD_setB zs i 0 hil, h00 e]
              split <;> rfl
            · skip
              refine WL.op rfl rfl rfl (Go.Proofs.Ytobibplilbchfaa.W.quiet_pick rfl rfl rfl) ?_
              refine WL.nil ?_
              refine TW.cond rfl (fun hb => by cases hb) (fun _ => ?_)
              refine TW.skipx ?_
              refine Xw.nblk ?_
              refine Xw.nrm ?_
              refine TW.reg ?_
              refine WL.op rfl rfl rfl (Go.Proofs.Ytobibplilbchfaa.W.quiet_move rfl rfl) ?_
              refine WL.op rfl rfl rfl (Go.Proofs.Ytobibplilbchfaa.W.quiet_bin rfl rfl rfl (fun W => qb_add_int W _ _ _ _ (by omega) (by omega))) ?_
              refine WL.op rfl rfl rfl (Go.Proofs.Ytobibplilbchfaa.W.quiet_assign rfl rfl) ?_
              refine WL.end ?_
              refine Xw.any (fun a k => ?_)
              refine ⟨q + 1, by omega, by omega, zs, (by (repeat (refine Kn.cons k rfl ?_)); exact k.base), ff, bx1, hB, hyl, hsn, hle, hrd, h00, fun k9 hk h1 h2 => ?_⟩
              by_cases e : k9 = q
              · rw [e] at h1 h2; first | exact absurd (hle q h1) (by rw [hb5]; decide) | exact absurd h2 (by rw [hb6]; decide)
              · exact hqq k9 (by omega) h1 h2
          · skip
            refine WL.op rfl rfl rfl (Go.Proofs.Ytobibplilbchfaa.W.quiet_move rfl rfl) ?_
            refine WL.skip rfl rfl rfl ?_
            refine WL.skip rfl rfl rfl ?_
            refine WL.skip rfl rfl rfl ?_
            refine WL.skip rfl rfl rfl ?_
            refine WL.op rfl rfl rfl (Go.Proofs.Ytobibplilbchfaa.W.quiet_pick rfl rfl rfl) ?_
            refine WL.nil ?_
            refine TW.cond rfl (fun hb => by cases hb) (fun _ => ?_)
            refine TW.skipx ?_
            refine Xw.nblk ?_
            refine Xw.nrm ?_
            refine TW.reg ?_
            refine WL.op rfl rfl rfl (Go.Proofs.Ytobibplilbchfaa.W.quiet_move rfl rfl) ?_
            refine WL.op rfl rfl rfl (Go.Proofs.Ytobibplilbchfaa.W.quiet_bin rfl rfl rfl (fun W => qb_add_int W _ _ _ _ (by omega) (by omega))) ?_
            refine WL.op rfl rfl rfl (Go.Proofs.Ytobibplilbchfaa.W.quiet_assign rfl rfl) ?_
            refine WL.end ?_
            refine Xw.any (fun a k => ?_)
            refine ⟨q + 1, by omega, by omega, zs, (by (repeat (refine Kn.cons k rfl ?_)); exact k.base), ff, bx1, hB, hyl, hsn, hle, hrd, h00, fun k9 hk h1 h2 => ?_⟩
            by_cases e : k9 = q
            · rw [e] at h1 h2; first | exact absurd (hle q h1) (by rw [hb5]; decide) | exact absurd h2 (by rw [hb6]; decide)
            · exact hqq k9 (by omega) h1 h2
        · skip
          refine WL.nil ?_
          refine TW.cond rfl (fun hb => by cases hb) (fun _ => ?_)
          refine TW.exit ?_
          refine Xw.thn (by simp) ?_
          refine Xw.thn (by simp) ?_
          refine Xw.hit ?_
          refine Xw.nblk ?_
          refine Xw.nrm ?_
          refine TW.reg ?_
          refine WL.op rfl rfl rfl (Go.Proofs.Ytobibplilbchfaa.W.quiet_move rfl rfl) ?_
          refine WL.op rfl rfl rfl (Go.Proofs.Ytobibplilbchfaa.W.quiet_bin rfl rfl rfl (fun W => qb_add_int W _ _ _ _ (by omega) (by omega))) ?_
          refine WL.op rfl rfl rfl (Go.Proofs.Ytobibplilbchfaa.W.quiet_assign rfl rfl) ?_
          refine WL.end ?_
          refine Xw.any (fun a k => ?_)
          have hje : q = bs.length := by have := of_decide_eq_false hbq; omega
          subst hje
          refine ⟨i + 1, by omega, by omega, zs, (by (repeat (refine Kn.cons k rfl ?_)); exact k.base), ff, bx1, hB, hyl, hsn, hle, fun i2 h2 => ?_⟩
          by_cases e : i2 = i
          · subst e; exact ⟨h00, fun k hk h1 h2 => hqq k hk h1 h2⟩
          · exact hrd i2 (by omega)
    · skip
      refine WL.nil ?_
      refine TW.cond rfl (fun hb => by cases hb) (fun _ => ?_)
      refine TW.exit ?_
      refine Xw.thn (by simp) ?_
      refine Xw.thn (by simp) ?_
      refine Xw.hit ?_
      refine Xw.nblk ?_
      refine Xw.nrm ?_
      refine TW.reg ?_
      refine WL.op rfl rfl rfl (Go.Proofs.Ytobibplilbchfaa.W.quiet_move rfl rfl) ?_
      refine WL.op rfl rfl rfl (Go.Proofs.Ytobibplilbchfaa.W.quiet_bin rfl rfl rfl (fun W => qb_add_int W _ _ _ _ (by omega) (by omega))) ?_
      refine WL.op rfl rfl rfl (Go.Proofs.Ytobibplilbchfaa.W.quiet_assign rfl rfl) ?_
      refine WL.end ?_
      refine Xw.any (fun a k => ?_)
      have hje : i = bs.length := by have := of_decide_eq_false hbi; omega
      subst hje
      exact ⟨r + 1, by omega, by omega, ys, (by (repeat (refine Kn.cons k rfl ?_)); exact k.base), ff, bx1, hB, hyl, hsn, prog_next hpg hxl hyl hsn hle hrd⟩
  · skip
    refine WL.nil ?_
    refine TW.cond rfl (fun hb => by cases hb) (fun _ => ?_)
    refine TW.exit ?_
    refine Xw.thn (by simp) ?_
    refine Xw.thn (by simp) ?_
    refine Xw.hit ?_
    refine Xw.nrm ?_
    refine TW.sreg ?_
    refine WL.op rfl rfl rfl (Go.Proofs.Ytobibplilbchfaa.W.quiet_move rfl rfl) ?_
    refine WL.op rfl rfl rfl (Go.Proofs.Ytobibplilbchfaa.W.quiet_assign rfl rfl) ?_
    refine WL.nil ?_
    refine TW.rt ?_
    refine bodyw_ret rfl rfl ?_
    have hje : r = bs.length := by have := of_decide_eq_false hbr; omega
    subst hje
    exact ⟨_, _, _, xs, rfl, hB, hxl, prog_end hpg hxl hsn, ff⟩
end Go.Proofs.Ytobibplilbchfaa
