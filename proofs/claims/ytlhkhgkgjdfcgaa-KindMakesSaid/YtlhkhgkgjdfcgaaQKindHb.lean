/-
  Tables of types (layer 8): an act on the program's table and on the document's.
-/
import Derived.Test.YtlhkhgkgjdfcgaaQKindGb
import Derived.Outline
namespace Go.Proofs.Ytlhkhgkgjdfcgaa
open Go.RowKit
set_option linter.unusedVariables false
set_option linter.unusedSimpArgs false
def structN (es : List Ent) (nm : ByteArray) (fs : List Fld) : Int := if structX es nm fs = 0 then 3 + (findK es nm : Int) else 0
/-- The document's Struct, in all cases. -/
theorem rstruct_all {es : List Ent} {fss : Nat → List Fld} {rs : List RT} {rk : Int → Nat} (h : Mat es fss rs rk) (hfew : es.length ≤ 397) {W : World} {a : Option Addr} {c : Nat} (hd : DocAt W a rs (dF fss)) (nm : ByteArray) (fa : Option Addr) (fn fc : Nat) (fs : List Fld) (hfs : FldAt W fa fn fs) (hf1 : fs.length ≤ 1000) :
    Calls Try.prog 32 #[.slice a rs.length c, .string nm, .slice fa fn fc] W fun r w' => ∃ rs', LaidS (structX es nm fs = 0) (fun fa' fc' => rs.set (3 + findK es nm) (laidR nm fa' fs.length fc')) (ownF (szE es) (alE es) fs fs.length) fs.length rs W rs' w' ∧ MadeP W a rs (structN es nm fs) (structX es nm fs) rs' r w' := by
  have hl := h.len
  have hrl : rs.length ≤ 1000 := by omega
  have hrf := h.rfind nm
  by_cases hk : findK es nm < es.length
  · have hkr : rfind rs nm < rs.length := by omega
    have hw := h.twin _ hk
    rw [← hrf] at hw
    by_cases ho : (es.getD (findK es nm) ent0).fn = 0
    · have hopn : (rs.getD (rfind rs nm) rt0).opn = true := by rw [hw.opn, findK_is hk, ho]; rfl
      by_cases hc : chk es fs = 0
      · have hs := sized_of h.ok hc
        have hl1 := (chk_zero hc).1
        obtain ⟨l1, l2, l3⟩ := layS_is hs fs.length (Nat.le_refl _)
        rw [if_neg (by omega)] at l2
        obtain ⟨b0, b1, _⟩ := layS_bound hs fs.length (Nat.le_refl _)
        have hin : rin rs ((rfind rs nm : Nat) : Int) = true := decide_eq_true (by omega)
        have hz := h.doc.zero ((rfind rs nm : Nat) : Int) hin (.inr (by unfold rAt; rw [Int.toNat_natCast]; exact hopn))
        have hal : ∀ f ∈ fs, 1 ≤ alE es f.type := fun f hf => (hs f hf).2.1
        obtain ⟨Z, hZ⟩ : ∃ Z, upI (endF (szE es) (alE es) fs fs.length) (alF (alE es) fs fs.length) = Z := ⟨_, rfl⟩
        have hx : structX es nm fs = if 32768 < Z then 2 else 0 := by
          unfold structX
          rw [if_neg (fun q => q hk), if_neg (fun q => q ho), if_neg (fun q => q hc), l1, l2, hZ]
        refine (rstruct_go h.doc hrl hd nm fa fn fc fs hfs hf1 hkr hopn (by rw [h.may]; exact hc) hal (by rw [← l1]; omega) Z (Lib.hid (fun V av cv fa' fc' hV => ?_))).mono fun r w' hr => ?_
        · have D := h.doc.set h.dep (rfind rs nm) hkr hz.2 fs hal (by rw [← l1]; omega) nm fa' fs.length fc'
          have hS := rsize_of D (by rw [List.length_set]; exact hrl) _ ((rfind rs nm : Nat) : Int) (Nat.le_refl _) V av cv hV
          rw [List.length_set] at hS
          refine hS.mono fun r w' hr => ?_
          rw [if_pos rfl, hZ] at hr
          exact hr
        · obtain ⟨fa', fc', r1, r2, r3⟩ := hr
          unfold structN
          by_cases hz2 : 32768 < Z
          · rw [if_pos hz2, if_pos hz2, if_pos hz2] at r3
            rw [hx, if_pos hz2, if_neg (by decide)]
            exact ⟨rs, .inl ⟨by decide, rfl⟩, r3⟩
          · rw [if_neg hz2, if_neg hz2, if_neg hz2] at r3
            rw [hx, if_neg hz2, if_pos rfl]
            rw [hrf] at r3
            exact ⟨_, .inr ⟨rfl, fa', fc', rfl, r1, r2⟩, by rw [Int.natCast_add] at r3; exact r3⟩
      · have hx : structX es nm fs = chk es fs := by
          unfold structX
          rw [if_neg (fun q => q hk), if_neg (fun q => q ho), if_pos hc]
        have hx0 : structX es nm fs ≠ 0 := by rw [hx]; exact hc
        unfold structN
        rw [if_neg hx0, hx]
        exact (rstruct_may hd.1 hrl nm (.slice fa fn fc) hkr hopn (chk es fs) hc (Lib.hid (fun V hV => by
          have := may_of h.doc hrl V a c (hd.quiet hV) fa fn fc fs (hfs.quiet hV) hf1
          rw [h.may] at this
          exact this))).mono fun r w' hr => ⟨rs, .inl ⟨hc, rfl⟩, hr⟩
    · have hopn : (rs.getD (rfind rs nm) rt0).opn = false := by
        rw [hw.opn]
        have : ((es.getD (findK es nm) ent0).fn == 0) = false := by rw [beq_eq_false_iff_ne]; exact ho
        rw [this, Bool.and_false]
      have hx : structX es nm fs = 4 := by unfold structX; rw [if_neg (fun q => q hk), if_pos ho]
      unfold structN
      rw [hx, if_neg (by decide)]
      exact (rstruct_shut hd.1 hrl nm _ hkr hopn).mono fun r w' hr => ⟨rs, .inl ⟨by decide, rfl⟩, hr⟩
  · have hx : structX es nm fs = 4 := by unfold structX; rw [if_pos hk]
    unfold structN
    rw [hx, if_neg (by decide)]
    exact (rstruct_none hd.1 hrl nm _ (by omega)).mono fun r w' hr => ⟨rs, .inl ⟨by decide, rfl⟩, hr⟩
/-- Both tables. -/
structure Both (w0 w : World) (tb : Nat) (a : Option Addr) (es : List Ent) (fss : Nat → List Fld) (rs : List RT) (rk : Int → Nat) : Prop where
  tab : (tabFace w0 tb es fss).P w
  mat : Mat es fss rs rk
  doc : DocAt w a rs (dF fss)
  oa : (tabFace w0 tb es fss).offA w a rs.length
  of : ∀ k, k < rs.length → (tabFace w0 tb es fss).offA w (rs.getD k rt0).fa (dF fss k).length
theorem Both.few {w0 w : World} {tb : Nat} {a : Option Addr} {es : List Ent} {fss : Nat → List Fld} {rs : List RT} {rk : Int → Nat} (h : Both w0 w tb a es fss rs rk) : es.length ≤ 397 := by
  obtain ⟨v, hv, _⟩ := h.tab.ex
  have := hv.few
  omega
theorem Both.turned {w0 w w' : World} {tb : Nat} {a : Option Addr} {es : List Ent} {fss : Nat → List Fld} {rs : List RT} {rk : Int → Nat} (h : Both w0 w tb a es fss rs rk) {G : Face} (ht : Trn (tabFace w0 tb es fss) G w w') :
    DocAt w' a rs (dF fss) ∧ G.offA w' a rs.length ∧ ∀ k, k < rs.length → G.offA w' (rs.getD k rt0).fa (dF fss k).length :=
  ⟨⟨ht.rat h.doc.1 h.oa, fun k hk => ⟨ht.fld (h.doc.2 k hk).1 (h.of k hk), (h.doc.2 k hk).2⟩⟩, ht.offA h.oa, fun k hk => ht.offA (h.of k hk)⟩
theorem Both.quiet {w0 w w' : World} {tb : Nat} {a : Option Addr} {es : List Ent} {fss : Nat → List Fld} {rs : List RT} {rk : Int → Nat} (h : Both w0 w tb a es fss rs rk) (hf : Fr (fun _ => False) w w') : Both w0 w' tb a es fss rs rk := by
  have ht := Trn.quiet h.tab hf
  obtain ⟨x, y, z⟩ := h.turned ht
  exact ⟨(tabFace w0 tb es fss).quiet h.tab hf, h.mat, x, y, z⟩
/-- What an act on both leaves. -/
def BothP (w0 : World) (tb : Nat) (r : Ending) (w' : World) : Prop :=
  ∃ A B a c es fss rs rk, r = .returned (.tuple #[.int .i64 A, .int .i64 B, .agg #[.int .i64 A, .slice a rs.length c, .int .i64 B]]) ∧ Both w0 w' tb a es fss rs rk
theorem both_more {w0 w w' : World} {tb : Nat} {a : Option Addr} {es es' : List Ent} {fss : Nat → List Fld} {rs rs' : List RT} {rk : Int → Nat} (h : Both w0 w tb a es fss rs rk) {A B N E : Int} {r : Ending}
    (hd : DoneP (tabFace w0 tb es fss) (tabFace w0 tb es' fss) w A B N E rs' r w') (hA : N = A) (hB : E = B)
    (hx : (rs' = rs ∧ es' = es) ∨ ∃ x t, rs' = rs ++ [t] ∧ es' = es ++ [x] ∧ Twin x t ∧ EntOk x ∧ (x.fa = none ∧ x.fn = 0 ∧ x.fc = 0) ∧ (t.kind = 3 ∧ x.size = 4 ∧ x.align = 4 ∧ t.opn = false ∨ t.kind = 4 ∧ x.size = t.len * szE es t.elem ∧ x.align = alE es t.elem ∧ 1 ≤ x.align ∧ t.opn = false ∨ t.opn = true ∧ x.size = 0 ∧ x.align = 0)) :
    BothP w0 tb r w' := by
  subst hA hB
  obtain ⟨a', n', c', e, h1, h2, h3, h4⟩ := hd
  obtain ⟨t1, t2, t3⟩ := h.turned h2
  have hn := h3.1
  subst hn
  rcases hx with ⟨rfl, rfl⟩ | ⟨x, t, rfl, rfl, hw, hok, hfn, hc⟩
  · exact ⟨_, _, a', c', _, fss, _, rk, e, h1, h.mat, ⟨h3, t1.2⟩, h4, t3⟩
  · obtain ⟨rk', hm⟩ := h.mat.add hw hok hfn hc
    have hl := h.mat.len
    have hlast : dF fss rs.length = [] := by
      unfold dF
      rw [if_neg (by omega), hl, Nat.add_sub_cancel_left]
      exact h.tab.out _ (Nat.le_refl _)
    refine ⟨_, _, a', c', _, fss, _, rk', e, h1, hm, ⟨h3, fun k hk => ?_⟩, h4, fun k hk => ?_⟩
    · by_cases hlt : k < rs.length
      · rw [app_left rs t rt0 hlt]; exact t1.2 k hlt
      · have hk' : k = rs.length := by simp at hk; omega
        rw [hk', app_last, hlast]
        exact ⟨⟨by rw [hw.fn, hfn.2.1]; rfl, fun i hi => absurd hi (Nat.not_lt_zero _)⟩, Nat.zero_le _⟩
    · by_cases hlt : k < rs.length
      · rw [app_left rs t rt0 hlt]; exact t3 k hlt
      · have hk' : k = rs.length := by simp at hk; omega
        rw [hk', app_last, hlast]
        exact fun g o _ hne => absurd rfl hne
theorem Both.struct {w0 w w' : World} {tb : Nat} {a : Option Addr} {es : List Ent} {fss : Nat → List Fld} {rs rs' : List RT} {rk : Int → Nat} (h : Both w0 w tb a es fss rs rk) {nm : ByteArray} {fs : List Fld} (hx : structX es nm fs = 0) (hlen : fs.length ≤ 1000) {g c : Nat} {A B : Int} {r : Ending}
    (hd : DoneP (tabFace w0 tb es fss) (tabFace w0 tb (es.set (findK es nm) (laidE es nm fs g c)) (setFs fss (findK es nm) (layS es fs fs.length).2.2)) w A B A B rs' r w')
    {fa : Option Addr} {fc : Nat} (hrs : rs' = rs.set (3 + findK es nm) (laidR nm fa fs.length fc)) (hfl : FldAt w' fa fs.length (ownF (szE es) (alE es) fs fs.length))
    (hof : (tabFace w0 tb (es.set (findK es nm) (laidE es nm fs g c)) (setFs fss (findK es nm) (layS es fs fs.length).2.2)).offA w' fa (ownF (szE es) (alE es) fs fs.length).length) : BothP w0 tb r w' := by
  obtain ⟨k0, k1, k2, k3⟩ := structX_zero hx
  have hs := sized_of h.mat.ok k2
  obtain ⟨l1, l2, l3⟩ := layS_is hs fs.length (Nat.le_refl _)
  obtain ⟨a', n', c', e, h1, h2, h3, h4⟩ := hd
  obtain ⟨t1, t2, t3⟩ := h.turned h2
  have hn := h3.1
  subst hn
  obtain ⟨rk', hm⟩ := h.mat.set hx hlen g c fa fc
  have hl := h.mat.len
  rw [← hrs] at hm
  have hsg : ∀ i, i ≠ 3 + findK es nm → rs'.getD i rt0 = rs.getD i rt0 := fun i hi => by
    rw [hrs, List.getD_eq_getElem?_getD, List.getElem?_set_ne (by omega), ← List.getD_eq_getElem?_getD]
  have hss : rs'.getD (3 + findK es nm) rt0 = laidR nm fa fs.length fc := by
    rw [hrs, List.getD_eq_getElem?_getD, List.getElem?_set_self (by omega)]; rfl
  have hF : ∀ i, i ≠ 3 + findK es nm → dF (setFs fss (findK es nm) (layS es fs fs.length).2.2) i = dF fss i := fun i hi => by
    unfold dF setFs
    by_cases h3 : i < 3
    · rw [if_pos h3, if_pos h3]
    · rw [if_neg h3, if_neg h3, if_neg (by omega)]
  have hFs : dF (setFs fss (findK es nm) (layS es fs fs.length).2.2) (3 + findK es nm) = ownF (szE es) (alE es) fs fs.length := by
    unfold dF setFs
    rw [if_neg (by omega), if_pos (by omega), l3]
  have hlr : rs'.length = rs.length := by rw [hrs, List.length_set]
  refine ⟨_, _, a', c', _, _, _, rk', e, h1, hm, ⟨h3, fun k hk => ?_⟩, h4, fun k hk => ?_⟩
  · by_cases hkk : k = 3 + findK es nm
    · subst hkk
      rw [hss, hFs]
      exact ⟨hfl, by rw [ownF_len]; exact hlen⟩
    · rw [hsg k hkk, hF k hkk]
      exact t1.2 k (by omega)
  · by_cases hkk : k = 3 + findK es nm
    · subst hkk
      rw [hss, hFs]
      exact hof
    · rw [hsg k hkk, hF k hkk]
      exact t3 k (by omega)
theorem arr_none {b : Bool} {s long : Int} (h : (if b then (if s = 0 then 5 else if long < 1 then 1 else if 32768 < long then 2 else if 32768 < long * s then 2 else 0) else 4 : Int) = 0) : b = true ∧ s ≠ 0 ∧ ¬ long < 1 ∧ ¬ 32768 < long ∧ ¬ 32768 < long * s := by
  cases b with
  | false => rw [if_neg Bool.false_ne_true] at h; exact absurd h (by decide)
  | true =>
    rw [if_pos rfl] at h
    by_cases q1 : s = 0
    · rw [if_pos q1] at h; exact absurd h (by decide)
    · rw [if_neg q1] at h
      by_cases q2 : long < 1
      · rw [if_pos q2] at h; exact absurd h (by decide)
      · rw [if_neg q2] at h
        by_cases q3 : 32768 < long
        · rw [if_pos q3] at h; exact absurd h (by decide)
        · rw [if_neg q3] at h
          by_cases q4 : 32768 < long * s
          · rw [if_pos q4] at h; exact absurd h (by decide)
          · exact ⟨rfl, q1, q2, q3, q4⟩
theorem arr_some {b : Bool} {s long p : Int} (h : (if b then (if s = 0 then 5 else if long < 1 then 1 else if 32768 < long then 2 else if 32768 < long * s then 2 else 0) else 4 : Int) ≠ 0) : (if b then (if s = 0 then 5 else if long < 1 then 1 else if 32768 < long then 2 else if 32768 < long * s then 2 else p) else 4 : Int) = (if b then (if s = 0 then 5 else if long < 1 then 1 else if 32768 < long then 2 else if 32768 < long * s then 2 else 0) else 4 : Int) := by
  cases b with
  | false => rfl
  | true =>
    rw [if_pos rfl] at h
    rw [if_pos rfl, if_pos rfl]
    by_cases q1 : s = 0
    · rw [if_pos q1, if_pos q1]
    · rw [if_neg q1] at h
      rw [if_neg q1, if_neg q1]
      by_cases q2 : long < 1
      · rw [if_pos q2, if_pos q2]
      · rw [if_neg q2] at h
        rw [if_neg q2, if_neg q2]
        by_cases q3 : 32768 < long
        · rw [if_pos q3, if_pos q3]
        · rw [if_neg q3] at h
          rw [if_neg q3, if_neg q3]
          by_cases q4 : 32768 < long * s
          · rw [if_pos q4, if_pos q4]
          · rw [if_neg q4] at h; exact absurd rfl h
/-- An act on both tables: one number, one error, and again both tables. -/
theorem done_both {w0 w : World} {tb : Nat} {a : Option Addr} {c : Nat} {es : List Ent} {fss : Nat → List Fld} {rs : List RT} {rk : Int → Nat} (h : Both w0 w tb a es fss rs rk) (y : ActV) (fs : List Fld) (hfs : FldAt w y.fa y.fn fs) (hfo : (tabFace w0 tb es fss).offA w y.fa fs.length) (hfew : fs.length ≤ 1000) (hnm : ∀ f ∈ fs, f.name.size ≤ maxLen) :
    Calls Try.prog 12 #[y.val, .pointer (some ⟨tb, 0, none⟩), .slice a rs.length c] w (BothP w0 tb) := by
  have hl := h.mat.len
  have h397 := h.few
  have hrl : rs.length ≤ 1000 := by omega
  obtain ⟨kd, m, long, nm, fa, fn, fc⟩ := y
  have hin := h.mat.inE m
  by_cases h0 : kd = 0
  · subst h0
    refine (done_ptr (G := tabFace w0 tb (ptrL es m) fss) h.tab rfl (.pointer (some ⟨tb, 0, none⟩)) m long nm fa fn fc h.doc.1 h.oa (Lib.hid fun W hW => ptr_face hW m) (Lib.hid fun W hW => rptr_of hW hrl m)).mono fun r w' hd => ?_
    obtain ⟨p1, p2, p3⟩ := h.mat.put h397 (x := ptrE m) (t := ptrR m) rfl rfl rfl (by show (3 : Int) ≤ 3; decide) (by show (3 : Int) ≠ 5; decide)
    unfold ptrA ptrB ptrL rptrN rptrX rptrL at hd
    cases hr : rin rs m with
    | true =>
      rw [hr] at hin hd
      rw [if_pos rfl] at hin
      rw [if_pos hin, if_pos hin, if_pos hin, if_pos rfl, if_pos rfl, if_pos rfl] at hd
      refine both_more h hd p1 p2 (p3.imp id fun q => ⟨ptrE m, ptrR m, q.1, q.2, ⟨rfl, rfl, rfl, rfl, rfl, rfl⟩, ptrE_ok m, ⟨rfl, rfl, rfl⟩, .inl ⟨rfl, rfl, rfl, rfl⟩⟩)
    | false =>
      rw [hr] at hin hd
      rw [if_neg (by decide)] at hin
      rw [hin, if_neg (by decide), if_neg (by decide), if_neg (by decide), if_neg (by decide), if_neg (by decide), if_neg (by decide)] at hd
      exact both_more h hd rfl rfl (.inl ⟨rfl, rfl⟩)
  · by_cases h1 : kd = 1
    · subst h1
      have hok := entF_ok h.mat.ok m
      refine (done_arrayK (G := tabFace w0 tb (arrL es m long) fss) h.tab rfl (.pointer (some ⟨tb, 0, none⟩)) m long nm fa fn fc h.doc.1 h.oa (Lib.hid fun W hW => array_face hW m long) (fun W => DocAt W a rs (dF fss)) (Lib.hid fun W ht => (h.turned ht).1) (Lib.hid fun W hW => rarray_of hW.1 hrl m long (szE es m) hok.1 (Lib.hid fun W2 hW2 => rsize_of h.mat.doc hrl _ m (Nat.le_refl _) W2 a c (hW.quiet hW2)))).mono fun r w' hd => ?_
      obtain ⟨p1, p2, p3⟩ := h.mat.put h397 (x := arrE m long (entF es m)) (t := arrR m long) rfl rfl rfl (by show (3 : Int) ≤ 4; decide) (by show (4 : Int) ≠ 5; decide)
      have hax := h.mat.arr m long
      unfold arrA arrB arrL rarrN rarrX rarrL at hd
      by_cases hx : arrX es m long = 0
      · rw [if_pos hx, if_pos hx, if_pos hx] at hd
        rw [hx] at hax
        have hgo := arr_none hax.symm
        obtain ⟨g1, g2, g3, g4, g5⟩ := hgo
        have hg : rarrGo rs m long (szE es m) = true := by
          unfold rarrGo
          rw [g1, bne_iff_ne.2 g2, decide_eq_true (by omega : 1 ≤ long), decide_eq_true (by omega : long ≤ 32768), decide_eq_true (by omega : long * szE es m ≤ 32768)]
          rfl
        rw [hg, if_pos g1, if_neg g2, if_neg g3, if_neg g4, if_neg g5, if_pos rfl, if_pos rfl] at hd
        refine both_more h hd p1 p2 (p3.imp id fun q => ⟨_, _, q.1, q.2, ⟨rfl, rfl, rfl, rfl, rfl, rfl⟩, arrE_ok h.mat.ok hx, ⟨rfl, rfl, rfl⟩, .inr (.inl ⟨rfl, rfl, rfl, hok.2.2 g2, rfl⟩)⟩)
      · rw [if_neg hx, if_neg hx, if_neg hx] at hd
        have hg : rarrGo rs m long (szE es m) = false := by
          cases hg : rarrGo rs m long (szE es m) with
          | false => rfl
          | true =>
            unfold rarrGo at hg
            simp only [Bool.and_eq_true, bne_iff_ne, ne_eq, decide_eq_true_eq] at hg
            obtain ⟨⟨⟨⟨g1, g2⟩, g3⟩, g4⟩, g5⟩ := hg
            rw [if_pos g1, if_neg g2, if_neg (by omega), if_neg (by omega), if_neg (by omega)] at hax
            exact absurd hax hx
        rw [hg, if_neg Bool.false_ne_true, if_neg Bool.false_ne_true] at hd
        refine both_more h hd rfl ?_ (.inl ⟨rfl, rfl⟩)
        rw [hax] at hx ⊢
        exact arr_some hx
    · by_cases h2 : kd = 2
      · subst h2
        refine (done_open (G := tabFace w0 tb (openL es nm) fss) h.tab rfl (.pointer (some ⟨tb, 0, none⟩)) m long nm fa fn fc h.doc.1 h.oa (Lib.hid fun W hW => open_face hW nm) (Lib.hid fun W hW => ropen_of hW hrl nm)).mono fun r w' hd => ?_
        obtain ⟨p1, p2, p3⟩ := h.mat.putOpen h397 nm
        have hrf := h.mat.rfind nm
        unfold openA openB openL openX ropenN ropenX ropenL at hd
        cases he : nm.toList.isEmpty with
        | true =>
          rw [he] at hd
          simp only [if_pos, if_true, reduceIte] at hd
          rw [if_neg (by decide), if_neg (by decide), if_neg (by decide)] at hd
          exact both_more h hd rfl rfl (.inl ⟨rfl, rfl⟩)
        | false =>
          rw [he] at hd
          by_cases hk : findK es nm < es.length
          · have hkr : rfind rs nm < rs.length := by omega
            simp only [if_pos hk, if_pos hkr, Bool.false_eq_true, if_false] at hd
            rw [if_neg (by decide), if_neg (by decide), if_neg (by decide)] at hd
            exact both_more h hd rfl rfl (.inl ⟨rfl, rfl⟩)
          · have hkr : ¬ rfind rs nm < rs.length := by omega
            simp only [if_neg hk, if_neg hkr, Bool.false_eq_true, if_false, if_true] at hd
            exact both_more h hd p1 p2 (p3.imp id fun q => ⟨_, _, q.1, q.2, ⟨rfl, rfl, rfl, rfl, rfl, rfl⟩, openE_ok nm, ⟨rfl, rfl, rfl⟩, .inr (.inr ⟨rfl, rfl, rfl⟩)⟩)
      · refine (done_structK h.tab (.pointer (some ⟨tb, 0, none⟩)) kd m long h0 h1 h2 nm fa fn fc (N := structN es nm fs) (E := structX es nm fs) h.doc.1 h.oa fs hfs hfo hfew
          (fun A B G => A = structN es nm fs ∧ B = structX es nm fs ∧ ((structX es nm fs ≠ 0 ∧ G = tabFace w0 tb es fss) ∨ (structX es nm fs = 0 ∧ ∃ g c, G = tabFace w0 tb (es.set (findK es nm) (laidE es nm fs g c)) (setFs fss (findK es nm) (layS es fs fs.length).2.2))))
          (Lib.hid fun W hW hF => (struct_face hW nm fa fn fc fs hF hfew hnm).mono fun r w' hs => ?_) (fun W => DocAt W a rs (dF fss)) (Lib.hid fun G W ht => (h.turned ht).1) (structX es nm fs = 0) (fun fa' fc' => rs.set (3 + findK es nm) (laidR nm fa' fs.length fc')) (ownF (szE es) (alE es) fs fs.length) fs.length
          (Lib.hid fun W av cv hW hF => by rw [hF.1]; exact rstruct_all h.mat h397 hW nm av _ cv fs (by have := hF; rw [hF.1] at this; exact this) hfew)).mono fun r w' hd => ?_
        · obtain ⟨es', fss', hd, hp, ht2⟩ := hs
          rcases hd with ⟨hx, e, rfl, rfl⟩ | ⟨hx, e, rfl, g, c, rfl⟩
          · exact ⟨_, _, _, e, ⟨by unfold structN; rw [if_neg hx], rfl, .inl ⟨hx, rfl⟩⟩, rfl, hp, ht2⟩
          · exact ⟨_, _, _, e, ⟨by unfold structN; rw [if_pos hx], hx.symm, .inr ⟨hx, g, c, rfl⟩⟩, rfl, hp, ht2⟩
        · obtain ⟨A, B, G, rs', ⟨rfl, rfl, hG⟩, hT, hdn⟩ := hd
          rcases hG with ⟨hx, rfl⟩ | ⟨hx, g, c, rfl⟩
          · rcases hT with ⟨_, rfl⟩ | ⟨q, _⟩
            · exact both_more h hdn rfl rfl (.inl ⟨rfl, rfl⟩)
            · exact absurd q hx
          · rcases hT with ⟨q, _⟩ | ⟨_, fa', fc', e, hfl, hof⟩
            · exact absurd hx q
            · exact h.struct hx hfew hdn e hfl hof
end Go.Proofs.Ytlhkhgkgjdfcgaa
