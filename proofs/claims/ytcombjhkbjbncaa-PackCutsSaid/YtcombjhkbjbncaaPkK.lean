/-
  Pack (layer 32): an image that is read.
-/
import Derived.Test.YtcombjhkbjbncaaPkK0
namespace Go.Proofs.Ytcombjhkbjbncaa
open Go.RowKit
set_option linter.unusedVariables false
set_option linter.unusedSimpArgs false
set_option linter.unnecessarySimpa false
theorem qk_pack_reader_number (w : World) (vs : Array Value) : (callFunc 28 vs).run Try.prog w = .ok (.enter 28 vs) w := by simp [go_sem]
theorem qk_pack_reader_run (w : World) (vs : Array Value) : (callFunc 30 vs).run Try.prog w = .ok (.enter 30 vs) w := by simp [go_sem]
theorem hd_str : u8s hd4 = [82, 83, 72, 1] := by decide
theorem hd_byt : Byt hd4 := by
  unfold hd4
  exact Byt.cons (by omega) (Byt.cons (by omega) (Byt.cons (by omega) (Byt.cons (by omega) Byt.nil)))
theorem rdWords_none {k : Nat} {r : List Int} (h : rdNum r = none) : rdWords (k + 1) r = none := by
  unfold rdWords
  rw [h]
theorem rdWords_some {k : Nat} {r r' : List Int} {n : Int} (h : rdNum r = some (n, r')) : rdWords (k + 1) r = (rdWords k r').map (fun p => (n :: p.1, p.2)) := by
  conv => lhs; unfold rdWords
  rw [h]
  simp only []
  cases rdWords k r' with
  | none => rfl
  | some p => rfl
theorem rdRuns_none {f size : Nat} {acc r : List Int} (hs : ¬size ≤ acc.length) (hf : size ≤ acc.length + f) (h : rdRun r = none) : rdRuns f size acc r = none := by
  cases f with
  | zero => omega
  | succ f =>
    unfold rdRuns
    rw [if_neg hs, h]
theorem rdRuns_some {f size : Nat} {acc r r' x : List Int} (hs : ¬size ≤ acc.length) (hf : size ≤ acc.length + f) (hx : 1 ≤ x.length) (h : rdRun r = some (x, r')) : ∃ f', size ≤ (acc ++ x).length + f' ∧ rdRuns f size acc r = rdRuns f' size (acc ++ x) r' := by
  cases f with
  | zero => omega
  | succ f =>
    refine ⟨f, by rw [List.length_append]; omega, ?_⟩
    conv => lhs; unfold rdRuns
    rw [if_neg hs, h]
theorem rdRuns_end {f size : Nat} {acc r : List Int} (hs : size ≤ acc.length) : rdRuns f size acc r = some (acc, r) := by
  cases f with
  | zero => rfl
  | succ f =>
    unfold rdRuns
    rw [if_pos hs]
/-- Behind the head. -/
def parse4 (l : List Int) : Option Img :=
    match rdMax 32768 l with
    | none => none
    | some (words, r1) => match rdMax 65536 r1 with
      | none => none
      | some (size, r2) => match rdMax 65536 r2 with
        | none => none
        | some (lim, r3) => match rdMax 64 r3 with
          | none => none
          | some (notes, r4) => match rdWords words.toNat r4 with
            | none => none
            | some (code, r5) => match rdRuns size.toNat size.toNat [] r5 with
              | none => none
              | some (data, _) => some ⟨code, data, 268435456 + lim, notes⟩
theorem parse_bad {l : List Int} (h : ¬(4 ≤ l.length ∧ l.take 4 = hd4)) : parse l = none := by unfold parse; rw [if_neg h]
theorem parse_good {l : List Int} (h : 4 ≤ l.length ∧ l.take 4 = hd4) : parse l = parse4 (l.drop 4) := by unfold parse; rw [if_pos h]; rfl
theorem str_of4 {Z : Nat} {w : World} {a : Option Addr} {l : List Int} {c : Nat} (h : NumAt .u8 Z w a l) (hl : l.length = 4) : (convert 23 9 (.slice a 4 c)).run Try.prog w = .ok (bts (u8s l)) w := by
  have := str_of (c := c) h
  rwa [hl] at this
set_option maxRecDepth 100000 in
set_option maxHeartbeats 1000000 in
theorem t_image (Z g : Nat) (hZ : Z ≤ g) (a : Option Addr) (c : Nat) (l : List Int) (hll : l.length ≤ 300000) (hc : l.length ≤ c) (w : World) (hbx : Bx w g #[.slice a l.length c] 46) (ha : NumAt .u8 Z w a l) (hby : Byt l) : Calls Try.prog 18 #[.pointer (some ⟨g, 0, none⟩)] w fun e w' => (parse l = none ∧ e = .panicked malf ∧ Fr (fun q => q = g) w w') ∨ (∃ im : Img, parse l = some im ∧ im.wf ∧ ∃ (ca da : Option Addr) (cc dc : Nat), e = .returned (.agg #[.slice ca im.code.length cc, .slice da im.data.length dc, .int .i64 im.lim, .int .i64 im.notes]) ∧ R32 w.heap.size w' (.slice ca im.code.length cc) im.code ∧ R8 w.heap.size w' (.slice da im.data.length dc) im.data ∧ Fr (fun q => q = g) w w') := by
  have ff := Fr.refl (fun q => q = g) w
  have hgw := hbx.lt
  have hgw0 := hbx.lt
  have hws := Nat.le_refl w.heap.size
  refine calls_tw Try.func18 rfl rfl (Nat.le_of_ble_eq_true rfl) ?_
  refine TW.sreg ?_
  refine O.allocR rfl rfl rfl rfl (qzR_api_Image w) ?_
  rintro wa1 ⟨fa1, bx1⟩
  replace ff := ff.trans' fa1 (fun q hq e => e.elim)
  replace hbx := Bx.fr hbx fa1 id
  replace ha := ha.fr fa1
  replace hgw := Nat.lt_of_lt_of_le hgw fa1.size
  replace hws := Nat.le_trans hws fa1.size
  refine WL.nil ?_
  refine TW.sreg ?_
  refine WL.op rfl rfl rfl (Go.Proofs.Ytcombjhkbjbncaa.W.quiet_move rfl rfl) ?_
  refine WL.callP (hr := (t_take Z g hZ a c l (by omega) hc _ hbx ha 4)) rfl rfl rfl rfl rfl (fun W => qk_pack_reader_take W _) ?_
  rintro e w0 h9
  rcases h9 with ⟨hp, rfl, f0⟩ | ⟨hn0, a0, c0, rfl, hx0, ha0, hc0, hk0, f0⟩
  · refine .inr ⟨_, rfl, fun a k => ?_⟩
    exact And.intro k.defers (.inl ⟨parse_bad (fun h => by omega), rfl, ff.trans' f0 (fun q hq e => e)⟩)
  refine .inl ⟨_, rfl, ?_⟩
  replace ff := ff.trans' f0 (fun q hq e => e)
  replace bx1 := bx1.fr f0 (fun e => by omega)
  replace hgw := Nat.lt_of_lt_of_le hgw f0.size
  replace hws := Nat.le_trans hws f0.size
  clear hbx ha
  have hbx := hx0
  have ha := ha0
  have ht4 : (l.take 4).length = 4 := by rw [List.length_take]; omega
  refine O.cv rfl rfl rfl rfl rfl (str_of4 hk0 ht4) ?_
  refine WL.op rfl rfl rfl (Go.Proofs.Ytcombjhkbjbncaa.W.quiet_bin rfl rfl rfl (fun W => bn_eqs W _ _ (u8s (l.take 4)) [82, 83, 72, 1])) ?_
  refine WL.callP (hr := (t_require (decide (u8s (l.take 4) = [82, 83, 72, 1])) _)) rfl rfl rfl rfl rfl (fun W => qk_pack_require W _) ?_
  rintro e w5 h9
  rcases h9 with ⟨hq, rfl, f5⟩ | ⟨hq, rfl, f5⟩
  · refine .inr ⟨_, rfl, fun a k => ?_⟩
    exact And.intro k.defers (.inl ⟨parse_bad (fun h => absurd (show u8s (l.take 4) = [82, 83, 72, 1] by rw [h.2, hd_str]) (of_decide_eq_false hq)), rfl, ff.trans' f5 (fun q hq e => e.elim)⟩)
  refine .inl ⟨_, rfl, ?_⟩
  replace bx1 := bx1.fr f5 id
  replace ff := ff.trans' f5 (fun q hq e => e.elim)
  replace hbx := Bx.fr hbx f5 id
  replace ha := ha.fr f5
  replace hgw := Nat.lt_of_lt_of_le hgw f5.size
  replace hws := Nat.le_trans hws f5.size
  have hgood : 4 ≤ l.length ∧ l.take 4 = hd4 := ⟨hn0, (u8s_inj (hby.take 4) hd_byt).1 (by rw [hd_str]; exact of_decide_eq_true hq)⟩
  have hby1 := hby.drop 4
  have hl0 : (l.drop 4).length ≤ l.length := by simp
  refine WL.nil ?_
  refine TW.sreg ?_
  refine WL.op rfl rfl rfl (Go.Proofs.Ytcombjhkbjbncaa.W.quiet_move rfl rfl) ?_
  refine WL.callP (hr := (t_number Z g hZ a0 c0 (l.drop 4) (by omega) hc0 _ hbx ha hby1 32768 (by decide) (by decide))) rfl rfl rfl rfl rfl (fun W => qk_pack_reader_number W _) ?_
  rintro e w1 h9
  rcases h9 with ⟨hp, rfl, f1⟩ | ⟨n1, r1, a1, c1, hn1, rfl, hx1, ha1, hc1, f1⟩
  · refine .inr ⟨_, rfl, fun a k => ?_⟩
    exact And.intro k.defers (.inl ⟨by rw [parse_good hgood]; unfold parse4; rw [hp], rfl, ff.trans' f1 (fun q hq e => e)⟩)
  refine .inl ⟨_, rfl, ?_⟩
  replace ff := ff.trans' f1 (fun q hq e => e)
  replace bx1 := bx1.fr f1 (fun e => by omega)
  replace hgw := Nat.lt_of_lt_of_le hgw f1.size
  replace hws := Nat.le_trans hws f1.size
  clear hbx ha
  have hbx := hx1
  have ha := ha1
  obtain ⟨p1, q1, hby2, hl1⟩ := rdMax_byt hby1 hn1
  refine WL.op rfl rfl rfl (Go.Proofs.Ytcombjhkbjbncaa.W.quiet_move rfl rfl) ?_
  refine WL.callP (hr := (t_number Z g hZ a1 c1 r1 (by omega) hc1 _ hbx ha hby2 65536 (by decide) (by decide))) rfl rfl rfl rfl rfl (fun W => qk_pack_reader_number W _) ?_
  rintro e w2 h9
  rcases h9 with ⟨hp, rfl, f2⟩ | ⟨n2, r2, a2, c2, hn2, rfl, hx2, ha2, hc2, f2⟩
  · refine .inr ⟨_, rfl, fun a k => ?_⟩
    exact And.intro k.defers (.inl ⟨by rw [parse_good hgood]; unfold parse4; rw [hn1]; simp only []; rw [hp], rfl, ff.trans' f2 (fun q hq e => e)⟩)
  refine .inl ⟨_, rfl, ?_⟩
  replace ff := ff.trans' f2 (fun q hq e => e)
  replace bx1 := bx1.fr f2 (fun e => by omega)
  replace hgw := Nat.lt_of_lt_of_le hgw f2.size
  replace hws := Nat.le_trans hws f2.size
  clear hbx ha
  have hbx := hx2
  have ha := ha2
  obtain ⟨p2, q2, hby3, hl2⟩ := rdMax_byt hby2 hn2
  refine WL.op rfl rfl rfl (Go.Proofs.Ytcombjhkbjbncaa.W.quiet_assign rfl rfl) ?_
  refine WL.op rfl rfl rfl (Go.Proofs.Ytcombjhkbjbncaa.W.quiet_assign rfl rfl) ?_
  refine WL.nil ?_
  refine TW.sreg ?_
  refine WL.op rfl rfl rfl (Go.Proofs.Ytcombjhkbjbncaa.W.quiet_move rfl rfl) ?_
  refine WL.callP (hr := (t_number Z g hZ a2 c2 r2 (by omega) hc2 _ hbx ha hby3 65536 (by decide) (by decide))) rfl rfl rfl rfl rfl (fun W => qk_pack_reader_number W _) ?_
  rintro e w3 h9
  rcases h9 with ⟨hp, rfl, f3⟩ | ⟨n3, r3, a3, c3, hn3, rfl, hx3, ha3, hc3, f3⟩
  · refine .inr ⟨_, rfl, fun a k => ?_⟩
    exact And.intro k.defers (.inl ⟨by rw [parse_good hgood]; unfold parse4; rw [hn1]; simp only []; rw [hn2]; simp only []; rw [hp], rfl, ff.trans' f3 (fun q hq e => e)⟩)
  refine .inl ⟨_, rfl, ?_⟩
  replace ff := ff.trans' f3 (fun q hq e => e)
  replace bx1 := bx1.fr f3 (fun e => by omega)
  replace hgw := Nat.lt_of_lt_of_le hgw f3.size
  replace hws := Nat.le_trans hws f3.size
  clear hbx ha
  have hbx := hx3
  have ha := ha3
  obtain ⟨p3, q3, hby4, hl3⟩ := rdMax_byt hby3 hn3
  refine WL.op rfl rfl rfl (Go.Proofs.Ytcombjhkbjbncaa.W.quiet_bin rfl rfl rfl (fun W => qb_add_int W _ _ _ _ (by omega) (by omega))) ?_
  refine WL.op rfl rfl rfl (Go.Proofs.Ytcombjhkbjbncaa.W.quiet_move rfl rfl) ?_
  refine WL.callP (hr := (t_number Z g hZ a3 c3 r3 (by omega) hc3 _ hbx ha hby4 64 (by decide) (by decide))) rfl rfl rfl rfl rfl (fun W => qk_pack_reader_number W _) ?_
  rintro e w4 h9
  rcases h9 with ⟨hp, rfl, f4⟩ | ⟨n4, r4, a4, c4, hn4, rfl, hx4, ha4, hc4, f4⟩
  · refine .inr ⟨_, rfl, fun a k => ?_⟩
    exact And.intro k.defers (.inl ⟨by rw [parse_good hgood]; unfold parse4; rw [hn1]; simp only []; rw [hn2]; simp only []; rw [hn3]; simp only []; rw [hp], rfl, ff.trans' f4 (fun q hq e => e)⟩)
  refine .inl ⟨_, rfl, ?_⟩
  replace ff := ff.trans' f4 (fun q hq e => e)
  replace bx1 := bx1.fr f4 (fun e => by omega)
  replace hgw := Nat.lt_of_lt_of_le hgw f4.size
  replace hws := Nat.le_trans hws f4.size
  clear hbx ha
  have hbx := hx4
  have ha := ha4
  obtain ⟨p4, q4, hby5, hl4⟩ := rdMax_byt hby4 hn4
  refine O.bld rfl rfl rfl rfl rfl (qd_api_Image_2_3 _ _ _) ?_
  have lt2_bx1 := bx1.lt
  refine O.allocR rfl rfl rfl rfl (qzR_api_Image w4) ?_
  rintro wa2 ⟨fa2, bx2⟩
  replace bx1 := bx1.fr fa2 id
  replace ff := ff.trans' fa2 (fun q hq e => e.elim)
  replace hbx := Bx.fr hbx fa2 id
  replace ha := ha.fr fa2
  replace hgw := Nat.lt_of_lt_of_le hgw fa2.size
  replace hws := Nat.le_trans hws fa2.size
  obtain ⟨gI, hgI⟩ : ∃ gI, gI = w4.heap.size := ⟨_, rfl⟩
  rw [← hgI] at bx2
  rw [← hgI]
  refine O.storeR rfl rfl rfl rfl rfl (qsA_api_Image wa2 _ _ _ _ _ _ _ _ _ _ _ _ _ bx2) ?_
  rintro wa3 ⟨fa3, bx2x⟩
  replace bx1 := bx1.fr fa3 (fun e => by omega)
  replace ff := ff.trans' fa3 (fun q hq e => absurd hq (by omega))
  replace hbx := Bx.fr hbx fa3 (fun e => by omega)
  replace ha := ha.frZ fa3 (fun q hq e => by omega)
  replace hgw := Nat.lt_of_lt_of_le hgw fa3.size
  replace hws := Nat.le_trans hws fa3.size
  clear bx2
  have bx2 := bx2x
  clear bx2x
  have bxI := bx2
  obtain ⟨B, hBB⟩ : ∃ B, B = gI + 1 := ⟨_, rfl⟩
  have hB := Nat.succ_le_of_lt bxI.lt
  rw [Nat.succ_eq_add_one, ← hBB] at hB
  have hIB : gI < B := by omega
  have hgB : g < gI := by omega
  refine WL.nil ?_
  refine TW.seq ?_
  refine TW.sreg ?_
  refine WL.op rfl rfl rfl (Go.Proofs.Ytcombjhkbjbncaa.W.quiet_move rfl rfl) ?_
  refine WL.op rfl rfl rfl (Go.Proofs.Ytcombjhkbjbncaa.W.quiet_move rfl rfl) ?_
  refine WL.nil ?_
  refine TW.block ?_
  refine O.loopG (n := n1.toNat) (fun a _ => (intOf (a.tmps.getD 22 undef)).toNat) (fun j a W => ∃ (ws : List Int) (ca : Option Addr) (cc : Nat) (da : Option Addr) (dc : Nat) (ra : Option Addr) (rc : Nat) (r : List Int), Kn Try.f18.ntmps [(0, .pointer (some ⟨g, 0, none⟩)), (2, .pointer (some ⟨w.heap.size, 0, none⟩)), (4, .int .i64 n2), (5, .pointer (some ⟨gI, 0, none⟩)), (21, .int .i64 n1), (22, .int .i64 (j : Int))] a ∧ Fr (fun q => q = g) w W ∧ Bx W w.heap.size #[.slice none 0 0, .slice none 0 0, .int .i64 0, .int .i64 0] 25 ∧ Bx W gI #[.slice ca (ws).length cc, .slice da (([] : List Int)).length dc, .int .i64 (268435456 + n3), .int .i64 n4] 25 ∧ R32 B W (.slice ca (ws).length cc) (ws) ∧ R8 B W (.slice da (([] : List Int)).length dc) (([] : List Int)) ∧ Bx W g #[.slice ra r.length rc] 46 ∧ NumAt .u8 Z W ra r ∧ r.length ≤ rc ∧ Byt r ∧ r.length ≤ l.length ∧ B ≤ W.heap.size ∧ ws.length = j ∧ Wrd ws ∧ rdWords n1.toNat r4 = (rdWords (n1.toNat - j) r).map (fun p => (ws ++ p.1, p.2))) (fun j a W h => by obtain ⟨_, _, _, _, _, _, _, _, h⟩ := h; exact O.slotv h.1 rfl) 0 (Nat.zero_le _) (fun a k => ⟨[], none, 0, none, 0, a4, c4, r4, (by (repeat (refine Kn.cons k rfl ?_)); exact k.base), ff, bx1, bxI, Row.nil _ _ _ _ _, Row.nil _ _ _ _ _, hbx, ha, hc4, hby5, by omega, by omega, rfl, (fun x hx => by cases hx), by simp⟩) ?_
  rintro j a wl hj ⟨ws, ca, cc, da, dc, ra, rc, r, k, ff, bx1, bxI, hwr, hdr, hbx, ha, hrc, hby, hrl, hB, hwl, hwd, hrel⟩
  refine TW.app (s := [(0, .pointer (some ⟨g, 0, none⟩)), (2, .pointer (some ⟨w.heap.size, 0, none⟩)), (4, .int .i64 n2), (5, .pointer (some ⟨gI, 0, none⟩)), (21, .int .i64 n1), (22, .int .i64 (j : Int))]) ?_ k
  refine TW.sreg ?_
  refine WL.op rfl rfl rfl (Go.Proofs.Ytcombjhkbjbncaa.W.quiet_bin rfl rfl rfl (fun W => qb_lss_int W _ _ _ _)) ?_
  refine O.split (fun b1 => ?_) (fun b1 => ?_)
  · skip
    have hj2 : (j : Int) < n1 := of_decide_eq_true b1
    have hjn : j < n1.toNat := by omega
    refine WL.nil ?_
    refine TW.seq ?_
    refine TW.cond rfl (fun _ => ?_) (fun hb => by cases hb)
    refine TW.skip ?_
    refine TW.seq ?_
    refine TW.block ?_
    refine TW.regH (fun W => Fr (fun q => q = gI ∨ q = g ∨ (Value.slice ca ws.length cc).ownBlock = some q) wl W) (by kernel_rfl) ?_
    have fd : Fr (fun _ => False) wl wl.drew := (Fr.refl _ _).drewN 1
    have HW : Fr (fun q => q = gI ∨ q = g ∨ (Value.slice ca ws.length cc).ownBlock = some q) wl wl.drew := (Fr.refl _ _).drewN 1
    replace bx1 := bx1.fr fd id
    replace bxI := bxI.fr fd id
    replace ff := ff.trans' fd (fun q hq e => e.elim)
    replace hwr := Row.fr hwr fd (fun _ _ => id)
    replace hdr := Row.fr hdr fd (fun _ _ => id)
    replace hbx := Bx.fr hbx fd id
    replace ha := ha.fr fd
    replace hB := Nat.le_trans hB fd.size
    generalize hV : wl.drew = V1 at *
    clear hV
    refine WH.take 0 rfl (by kernel_rfl) (by kernel_rfl) (by kernel_rfl) (fun _ _ _ _ _ h => h) rfl rfl rfl HW (RH.field rfl rfl (fun W => qa_api_Image_0 W _ _)) ?_
    refine WH.take 2 rfl (by kernel_rfl) (by kernel_rfl) (by kernel_rfl) (fun _ _ _ _ _ h => h) rfl rfl rfl HW (RH.move rfl rfl) ?_
    refine WH.two 1 3 (by kernel_rfl) rfl rfl ?_ ?_ 
    · skip
      refine WL.ld rfl rfl rfl rfl rfl (ql_s_uint32 _ _ _ _ _ (bxI.cell (j := 0) rfl)) ?_
      refine WL.fin HW ?_
      refine WH.one 3 (by kernel_rfl) rfl ?_ 
      have hbx0 := hbx
      refine WL.callP (hr := (t_word Z g hZ ra rc r (by omega) hrc _ hbx ha hby)) rfl rfl rfl rfl rfl (fun W => qk_pack_reader_word W _) ?_
      rintro e w9 h9
      rcases h9 with ⟨hp, rfl, f9⟩ | ⟨n9, r9, a9, c9, hn9, rfl, hx9, ha9, hc9, f9⟩
      · refine .inr ⟨_, rfl, fun a k => ?_⟩
        exact And.intro k.defers (.inl ⟨by rw [parse_good hgood]; unfold parse4; rw [hn1]; simp only []; rw [hn2]; simp only []; rw [hn3]; simp only []; rw [hn4]; simp only []; rw [hrel, show n1.toNat - j = (n1.toNat - j - 1) + 1 by omega, rdWords_none hp]; rfl, rfl, ff.trans' f9 (fun q hq e => e)⟩)
      refine .inl ⟨_, rfl, ?_⟩
      replace ff := ff.trans' f9 (fun q hq e => e)
      replace HW := HW.trans' f9 (fun q hq e => .inr (.inl e))
      replace bx1 := bx1.fr f9 (fun e => by omega)
      replace bxI := Bx.fr bxI f9 (fun e => by omega)
      replace hwr := Row.fr hwr f9 (fun k hk e => Row.apart_typ hwr hbx0 (by decide) (hk.trans (congrArg some e)))
      replace hdr := Row.fr hdr f9 (fun k hk e => Row.apart_typ hdr hbx0 (by decide) (hk.trans (congrArg some e)))
      replace hB := Nat.le_trans hB f9.size
      clear hbx ha
      have hbx := hx9
      have ha := ha9
      have hnb := rdNum_byt hby hn9
      refine WL.fin HW ?_
      refine WH.one 4 (by kernel_rfl) rfl ?_ 
      refine O.bsl rfl rfl rfl rfl rfl (qv_s_uint32_1 _ _) ?_
      refine WL.fin (fr_al HW _) ?_
      refine WH.one 5 (by kernel_rfl) rfl ?_ 
      refine WL.append rfl rfl rfl rfl rfl rfl (R32.app1 n9 _ hwr (by omega) (by omega)) ?_
      rintro v3 w3 ⟨hv3, hF3, ho3⟩
      have hvk := fun k hk => (Row.lt hwr k hk).1
      replace HW := HW.trans' hF3 (fun q hq e => .inr (.inr e))
      replace ff := ff.trans' hF3 (fun q hq e => absurd hq (by have := hvk q e; omega))
      replace bx1 := bx1.fr hF3 (fun e => by have := hvk _ e; omega)
      have neI := Row.apart_typ hwr bxI (by decide)
      replace bxI := Bx.fr bxI hF3 neI
      have neG := Row.apart_typ hwr hbx (by decide)
      replace hbx := Bx.fr hbx hF3 neG
      replace hdr := Row.fr hdr hF3 (fun k hk e => rows_ne hdr hwr k hk e)
      replace ha := ha.frZ hF3 (fun q hq e => by have := hvk q e; omega)
      replace hB := Nat.le_trans hB hF3.size
      clear hwr
      have hwr := hv3
      obtain ⟨ca3, cc3, rfl⟩ := Row.form hwr
      -- world w3
      refine WL.fin HW ?_
      refine WH.take 6 rfl (by kernel_rfl) (by kernel_rfl) (by kernel_rfl) (fun _ _ _ _ _ h => h) rfl rfl rfl HW (RH.field rfl rfl (fun W => qa_api_Image_0 W _ _)) ?_
      refine WH.one 7 (by kernel_rfl) rfl ?_ 
      refine O.storeR rfl rfl rfl rfl rfl (qsF_s_uint32 w3 _ 0 _ _ _ _ _ _ bxI rfl) ?_
      rintro wa4 ⟨fa4, bxIx⟩
      replace bx1 := bx1.fr fa4 (fun e => by omega)
      replace ff := ff.trans' fa4 (fun q hq e => absurd hq (by omega))
      replace hwr := Row.fr hwr fa4 (fun k hk e => Row.apart_typ hwr bxI (by decide) (hk.trans (congrArg some e)))
      replace hdr := Row.fr hdr fa4 (fun k hk e => Row.apart_typ hdr bxI (by decide) (hk.trans (congrArg some e)))
      replace hbx := Bx.fr hbx fa4 (fun e => by omega)
      replace ha := ha.frZ fa4 (fun q hq e => by omega)
      replace hB := Nat.le_trans hB fa4.size
      replace HW := HW.trans' fa4 (fun q hq e => .inl e)
      clear bxI
      have bxI := bxIx
      clear bxIx
      refine WL.fin HW ?_
      refine WH.end (by kernel_rfl) ?_
      refine Xw.nblk ?_
      refine Xw.nrm ?_
      refine TW.reg ?_
      refine WL.op rfl rfl rfl (Go.Proofs.Ytcombjhkbjbncaa.W.quiet_bin rfl rfl rfl (fun W => qb_add_int W _ _ _ _ (by omega) (by omega))) ?_
      refine WL.op rfl rfl rfl (Go.Proofs.Ytcombjhkbjbncaa.W.quiet_move rfl rfl) ?_
      refine WL.end ?_
      refine Xw.any (fun a k => ?_)
      refine ⟨j + 1, by omega, by omega, ws ++ [n9], ca3, cc3, da, dc, a9, c9, r9, (by (repeat (refine Kn.cons k rfl ?_)); exact k.base), ff, bx1, bxI, hwr, hdr, hbx, ha, hc9, hnb.2.2.1, by omega, hB, by rw [List.length_append, List.length_singleton, hwl], (fun x hx => (List.mem_append.1 hx).elim (hwd x) (fun h => by rw [List.mem_singleton.1 h]; exact ⟨hnb.1, hnb.2.1⟩)), ?_⟩
      rw [hrel, show n1.toNat - j = (n1.toNat - (j + 1)) + 1 by omega, rdWords_some hn9, Option.map_map]
      congr 1
      funext p
      simp
    · skip
      have hbx0 := hbx
      refine WL.callP (hr := (t_word Z g hZ ra rc r (by omega) hrc _ hbx ha hby)) rfl rfl rfl rfl rfl (fun W => qk_pack_reader_word W _) ?_
      rintro e w9 h9
      rcases h9 with ⟨hp, rfl, f9⟩ | ⟨n9, r9, a9, c9, hn9, rfl, hx9, ha9, hc9, f9⟩
      · refine .inr ⟨_, rfl, fun a k => ?_⟩
        exact And.intro k.defers (.inl ⟨by rw [parse_good hgood]; unfold parse4; rw [hn1]; simp only []; rw [hn2]; simp only []; rw [hn3]; simp only []; rw [hn4]; simp only []; rw [hrel, show n1.toNat - j = (n1.toNat - j - 1) + 1 by omega, rdWords_none hp]; rfl, rfl, ff.trans' f9 (fun q hq e => e)⟩)
      refine .inl ⟨_, rfl, ?_⟩
      replace ff := ff.trans' f9 (fun q hq e => e)
      replace HW := HW.trans' f9 (fun q hq e => .inr (.inl e))
      replace bx1 := bx1.fr f9 (fun e => by omega)
      replace bxI := Bx.fr bxI f9 (fun e => by omega)
      replace hwr := Row.fr hwr f9 (fun k hk e => Row.apart_typ hwr hbx0 (by decide) (hk.trans (congrArg some e)))
      replace hdr := Row.fr hdr f9 (fun k hk e => Row.apart_typ hdr hbx0 (by decide) (hk.trans (congrArg some e)))
      replace hB := Nat.le_trans hB f9.size
      clear hbx ha
      have hbx := hx9
      have ha := ha9
      have hnb := rdNum_byt hby hn9
      refine WL.fin HW ?_
      refine WH.two 1 4 (by kernel_rfl) rfl rfl ?_ ?_ 
      · skip
        refine WL.ld rfl rfl rfl rfl rfl (ql_s_uint32 _ _ _ _ _ (bxI.cell (j := 0) rfl)) ?_
        refine WL.fin HW ?_
        refine WH.one 4 (by kernel_rfl) rfl ?_ 
        refine O.bsl rfl rfl rfl rfl rfl (qv_s_uint32_1 _ _) ?_
        refine WL.fin (fr_al HW _) ?_
        refine WH.one 5 (by kernel_rfl) rfl ?_ 
        refine WL.append rfl rfl rfl rfl rfl rfl (R32.app1 n9 _ hwr (by omega) (by omega)) ?_
        rintro v3 w3 ⟨hv3, hF3, ho3⟩
        have hvk := fun k hk => (Row.lt hwr k hk).1
        replace HW := HW.trans' hF3 (fun q hq e => .inr (.inr e))
        replace ff := ff.trans' hF3 (fun q hq e => absurd hq (by have := hvk q e; omega))
        replace bx1 := bx1.fr hF3 (fun e => by have := hvk _ e; omega)
        have neI := Row.apart_typ hwr bxI (by decide)
        replace bxI := Bx.fr bxI hF3 neI
        have neG := Row.apart_typ hwr hbx (by decide)
        replace hbx := Bx.fr hbx hF3 neG
        replace hdr := Row.fr hdr hF3 (fun k hk e => rows_ne hdr hwr k hk e)
        replace ha := ha.frZ hF3 (fun q hq e => by have := hvk q e; omega)
        replace hB := Nat.le_trans hB hF3.size
        clear hwr
        have hwr := hv3
        obtain ⟨ca3, cc3, rfl⟩ := Row.form hwr
        -- world w3
        refine WL.fin HW ?_
        refine WH.take 6 rfl (by kernel_rfl) (by kernel_rfl) (by kernel_rfl) (fun _ _ _ _ _ h => h) rfl rfl rfl HW (RH.field rfl rfl (fun W => qa_api_Image_0 W _ _)) ?_
        refine WH.one 7 (by kernel_rfl) rfl ?_ 
        refine O.storeR rfl rfl rfl rfl rfl (qsF_s_uint32 w3 _ 0 _ _ _ _ _ _ bxI rfl) ?_
        rintro wa5 ⟨fa5, bxIx⟩
        replace bx1 := bx1.fr fa5 (fun e => by omega)
        replace ff := ff.trans' fa5 (fun q hq e => absurd hq (by omega))
        replace hwr := Row.fr hwr fa5 (fun k hk e => Row.apart_typ hwr bxI (by decide) (hk.trans (congrArg some e)))
        replace hdr := Row.fr hdr fa5 (fun k hk e => Row.apart_typ hdr bxI (by decide) (hk.trans (congrArg some e)))
        replace hbx := Bx.fr hbx fa5 (fun e => by omega)
        replace ha := ha.frZ fa5 (fun q hq e => by omega)
        replace hB := Nat.le_trans hB fa5.size
        replace HW := HW.trans' fa5 (fun q hq e => .inl e)
        clear bxI
        have bxI := bxIx
        clear bxIx
        refine WL.fin HW ?_
        refine WH.end (by kernel_rfl) ?_
        refine Xw.nblk ?_
        refine Xw.nrm ?_
        refine TW.reg ?_
        refine WL.op rfl rfl rfl (Go.Proofs.Ytcombjhkbjbncaa.W.quiet_bin rfl rfl rfl (fun W => qb_add_int W _ _ _ _ (by omega) (by omega))) ?_
        refine WL.op rfl rfl rfl (Go.Proofs.Ytcombjhkbjbncaa.W.quiet_move rfl rfl) ?_
        refine WL.end ?_
        refine Xw.any (fun a k => ?_)
        refine ⟨j + 1, by omega, by omega, ws ++ [n9], ca3, cc3, da, dc, a9, c9, r9, (by (repeat (refine Kn.cons k rfl ?_)); exact k.base), ff, bx1, bxI, hwr, hdr, hbx, ha, hc9, hnb.2.2.1, by omega, hB, by rw [List.length_append, List.length_singleton, hwl], (fun x hx => (List.mem_append.1 hx).elim (hwd x) (fun h => by rw [List.mem_singleton.1 h]; exact ⟨hnb.1, hnb.2.1⟩)), ?_⟩
        rw [hrel, show n1.toNat - j = (n1.toNat - (j + 1)) + 1 by omega, rdWords_some hn9, Option.map_map]
        congr 1
        funext p
        simp
      · skip
        refine O.bsl rfl rfl rfl rfl rfl (qv_s_uint32_1 _ _) ?_
        refine WL.fin (fr_al HW _) ?_
        refine WH.one 1 (by kernel_rfl) rfl ?_ 
        refine WL.ld rfl rfl rfl rfl rfl (ql_s_uint32 _ _ _ _ _ ((bxI.fr (fr_al (Fr.refl (fun _ => False) _) _) id).cell (j := 0) rfl)) ?_
        refine WL.fin (fr_al HW _) ?_
        refine WH.one 5 (by kernel_rfl) rfl ?_ 
        refine WL.append rfl rfl rfl rfl rfl rfl (R32.app1 n9 _ hwr (by omega) (by omega)) ?_
        rintro v3 w3 ⟨hv3, hF3, ho3⟩
        have hvk := fun k hk => (Row.lt hwr k hk).1
        replace HW := HW.trans' hF3 (fun q hq e => .inr (.inr e))
        replace ff := ff.trans' hF3 (fun q hq e => absurd hq (by have := hvk q e; omega))
        replace bx1 := bx1.fr hF3 (fun e => by have := hvk _ e; omega)
        have neI := Row.apart_typ hwr bxI (by decide)
        replace bxI := Bx.fr bxI hF3 neI
        have neG := Row.apart_typ hwr hbx (by decide)
        replace hbx := Bx.fr hbx hF3 neG
        replace hdr := Row.fr hdr hF3 (fun k hk e => rows_ne hdr hwr k hk e)
        replace ha := ha.frZ hF3 (fun q hq e => by have := hvk q e; omega)
        replace hB := Nat.le_trans hB hF3.size
        clear hwr
        have hwr := hv3
        obtain ⟨ca3, cc3, rfl⟩ := Row.form hwr
        -- world w3
        refine WL.fin HW ?_
        refine WH.take 6 rfl (by kernel_rfl) (by kernel_rfl) (by kernel_rfl) (fun _ _ _ _ _ h => h) rfl rfl rfl HW (RH.field rfl rfl (fun W => qa_api_Image_0 W _ _)) ?_
        refine WH.one 7 (by kernel_rfl) rfl ?_ 
        refine O.storeR rfl rfl rfl rfl rfl (qsF_s_uint32 w3 _ 0 _ _ _ _ _ _ bxI rfl) ?_
        rintro wa6 ⟨fa6, bxIx⟩
        replace bx1 := bx1.fr fa6 (fun e => by omega)
        replace ff := ff.trans' fa6 (fun q hq e => absurd hq (by omega))
        replace hwr := Row.fr hwr fa6 (fun k hk e => Row.apart_typ hwr bxI (by decide) (hk.trans (congrArg some e)))
        replace hdr := Row.fr hdr fa6 (fun k hk e => Row.apart_typ hdr bxI (by decide) (hk.trans (congrArg some e)))
        replace hbx := Bx.fr hbx fa6 (fun e => by omega)
        replace ha := ha.frZ fa6 (fun q hq e => by omega)
        replace hB := Nat.le_trans hB fa6.size
        replace HW := HW.trans' fa6 (fun q hq e => .inl e)
        clear bxI
        have bxI := bxIx
        clear bxIx
        refine WL.fin HW ?_
        refine WH.end (by kernel_rfl) ?_
        refine Xw.nblk ?_
        refine Xw.nrm ?_
        refine TW.reg ?_
        refine WL.op rfl rfl rfl (Go.Proofs.Ytcombjhkbjbncaa.W.quiet_bin rfl rfl rfl (fun W => qb_add_int W _ _ _ _ (by omega) (by omega))) ?_
        refine WL.op rfl rfl rfl (Go.Proofs.Ytcombjhkbjbncaa.W.quiet_move rfl rfl) ?_
        refine WL.end ?_
        refine Xw.any (fun a k => ?_)
        refine ⟨j + 1, by omega, by omega, ws ++ [n9], ca3, cc3, da, dc, a9, c9, r9, (by (repeat (refine Kn.cons k rfl ?_)); exact k.base), ff, bx1, bxI, hwr, hdr, hbx, ha, hc9, hnb.2.2.1, by omega, hB, by rw [List.length_append, List.length_singleton, hwl], (fun x hx => (List.mem_append.1 hx).elim (hwd x) (fun h => by rw [List.mem_singleton.1 h]; exact ⟨hnb.1, hnb.2.1⟩)), ?_⟩
        rw [hrel, show n1.toNat - j = (n1.toNat - (j + 1)) + 1 by omega, rdWords_some hn9, Option.map_map]
        congr 1
        funext p
        simp
  · skip
    have hje : j = n1.toNat := by have := of_decide_eq_false b1; omega
    have hws5 : rdWords n1.toNat r4 = some (ws, r) := by rw [hrel, hje, Nat.sub_self]; simp [rdWords]
    obtain ⟨r5, hr5⟩ : ∃ r5, r5 = r := ⟨_, rfl⟩
    rw [← hr5] at hws5
    have hr5' := hr5
    refine WL.nil ?_
    refine TW.seq ?_
    refine TW.cond rfl (fun hb => by cases hb) (fun _ => ?_)
    refine TW.exit ?_
    refine Xw.thn (by simp) ?_
    refine Xw.thn (by simp) ?_
    refine Xw.hit ?_
    refine Xw.nrm ?_
    refine TW.seq ?_
    refine TW.block ?_
    refine O.loopX (n := n2.toNat) (fun j a W => ∃ (xs : List Int) (f : Nat) (ca : Option Addr) (cc : Nat) (da : Option Addr) (dc : Nat) (ra : Option Addr) (rc : Nat) (r : List Int), Kn Try.f18.ntmps [(0, .pointer (some ⟨g, 0, none⟩)), (2, .pointer (some ⟨w.heap.size, 0, none⟩)), (4, .int .i64 n2), (5, .pointer (some ⟨gI, 0, none⟩))] a ∧ Fr (fun q => q = g) w W ∧ Bx W w.heap.size #[.slice none 0 0, .slice none 0 0, .int .i64 0, .int .i64 0] 25 ∧ Bx W gI #[.slice ca (ws).length cc, .slice da (xs).length dc, .int .i64 (268435456 + n3), .int .i64 n4] 25 ∧ R32 B W (.slice ca (ws).length cc) (ws) ∧ R8 B W (.slice da (xs).length dc) (xs) ∧ Bx W g #[.slice ra r.length rc] 46 ∧ NumAt .u8 Z W ra r ∧ r.length ≤ rc ∧ Byt r ∧ r.length ≤ l.length ∧ B ≤ W.heap.size ∧ Byt xs ∧ xs.length ≤ n2.toNat + 127 ∧ j = min xs.length n2.toNat ∧ n2.toNat ≤ xs.length + f ∧ rdRuns n2.toNat n2.toNat [] r5 = rdRuns f n2.toNat xs r) 0 (Nat.zero_le _) (fun a k => ⟨[], n2.toNat, ca, cc, da, dc, ra, rc, r, (by (repeat (refine Kn.cons k rfl ?_)); exact k.base), ff, bx1, bxI, hwr, hdr, hbx, ha, hrc, hby, hrl, hB, Byt.nil, by simp, by simp, by simp, by rw [hr5]⟩) ?_
    rintro j a wd hj ⟨xs, f, ca, cc, da, dc, ra, rc, r, k, ff, bx1, bxI, hwr, hdr, hbx, ha, hrc, hby, hrl, hB, hxby, hxl, hjm, hfu, hrel⟩
    refine TW.app (s := [(0, .pointer (some ⟨g, 0, none⟩)), (2, .pointer (some ⟨w.heap.size, 0, none⟩)), (4, .int .i64 n2), (5, .pointer (some ⟨gI, 0, none⟩))]) ?_ k
    refine TW.seq ?_
    refine TW.sreg ?_
    refine WL.op rfl rfl rfl (Go.Proofs.Ytcombjhkbjbncaa.W.quiet_field rfl rfl (fun W => (qa_api_Image_1 W _ _))) ?_
    refine WL.ld rfl rfl rfl rfl rfl (ql_s_uint8 _ _ _ _ _ (bxI.cell (j := 1) rfl)) ?_
    refine O.len rfl rfl rfl rfl rfl (qn_s_uint8 _ _ _ _) ?_
    refine WL.op rfl rfl rfl (Go.Proofs.Ytcombjhkbjbncaa.W.quiet_move rfl rfl) ?_
    refine WL.op rfl rfl rfl (Go.Proofs.Ytcombjhkbjbncaa.W.quiet_bin rfl rfl rfl (fun W => qb_lss_int W _ _ _ _)) ?_
    refine O.split (fun d1 => ?_) (fun d1 => ?_)
    · skip
      have hsz : ¬n2.toNat ≤ xs.length := by have := of_decide_eq_true d1; omega
      refine WL.nil ?_
      refine TW.cond rfl (fun _ => ?_) (fun hb => by cases hb)
      refine TW.skip ?_
      refine TW.block ?_
      refine TW.regH (fun W => Fr (fun q => q = gI ∨ q = g ∨ (Value.slice da xs.length dc).ownBlock = some q) wd W) (by kernel_rfl) ?_
      have fd : Fr (fun _ => False) wd wd.drew := (Fr.refl _ _).drewN 1
      have HW : Fr (fun q => q = gI ∨ q = g ∨ (Value.slice da xs.length dc).ownBlock = some q) wd wd.drew := (Fr.refl _ _).drewN 1
      replace bx1 := bx1.fr fd id
      replace bxI := bxI.fr fd id
      replace ff := ff.trans' fd (fun q hq e => e.elim)
      replace hwr := Row.fr hwr fd (fun _ _ => id)
      replace hdr := Row.fr hdr fd (fun _ _ => id)
      replace hbx := Bx.fr hbx fd id
      replace ha := ha.fr fd
      replace hB := Nat.le_trans hB fd.size
      generalize hV : wd.drew = V2 at *
      clear hV
      refine WH.take 0 rfl (by kernel_rfl) (by kernel_rfl) (by kernel_rfl) (fun _ _ _ _ _ h => h) rfl rfl rfl HW (RH.field rfl rfl (fun W => qa_api_Image_1 W _ _)) ?_
      refine WH.take 2 rfl (by kernel_rfl) (by kernel_rfl) (by kernel_rfl) (fun _ _ _ _ _ h => h) rfl rfl rfl HW (RH.move rfl rfl) ?_
      refine WH.two 1 3 (by kernel_rfl) rfl rfl ?_ ?_ 
      · skip
        refine WL.ld rfl rfl rfl rfl rfl (ql_s_uint8 _ _ _ _ _ (bxI.cell (j := 1) rfl)) ?_
        refine WL.fin HW ?_
        refine WH.one 3 (by kernel_rfl) rfl ?_ 
        have hbx0 := hbx
        refine WL.callP (hr := (t_run Z g hZ ra rc r (by omega) hrc _ hbx ha hby)) rfl rfl rfl rfl rfl (fun W => qk_pack_reader_run W _) ?_
        rintro e w9 h9
        rcases h9 with ⟨hp, rfl, f9⟩ | ⟨x9, r9, xa9, xc9, a9, c9, hn9, rfl, hxn, hx9, ha9, hc9, f9⟩
        · refine .inr ⟨_, rfl, fun a k => ?_⟩
          exact And.intro k.defers (.inl ⟨by rw [parse_good hgood]; unfold parse4; rw [hn1]; simp only []; rw [hn2]; simp only []; rw [hn3]; simp only []; rw [hn4]; simp only []; rw [hws5]; simp only []; rw [hrel, rdRuns_none hsz hfu hp], rfl, ff.trans' f9 (fun q hq e => e)⟩)
        refine .inl ⟨_, rfl, ?_⟩
        replace ff := ff.trans' f9 (fun q hq e => e)
        replace HW := HW.trans' f9 (fun q hq e => .inr (.inl e))
        replace bx1 := bx1.fr f9 (fun e => by omega)
        replace bxI := Bx.fr bxI f9 (fun e => by omega)
        replace hwr := Row.fr hwr f9 (fun k hk e => Row.apart_typ hwr hbx0 (by decide) (hk.trans (congrArg some e)))
        replace hdr := Row.fr hdr f9 (fun k hk e => Row.apart_typ hdr hbx0 (by decide) (hk.trans (congrArg some e)))
        replace hB := Nat.le_trans hB f9.size
        clear hbx ha
        have hbx := hx9
        have ha := ha9
        have hxb := rdRun_len hby hn9
        refine WL.fin HW ?_
        refine WH.one 4 (by kernel_rfl) rfl ?_ 
        refine WL.append rfl rfl rfl rfl rfl rfl (R8.appN x9 _ hdr (by omega) (by omega) (by omega) hxn) ?_
        rintro v3 w3 ⟨hv3, hF3, ho3⟩
        have hvk := fun k hk => (Row.lt hdr k hk).1
        replace HW := HW.trans' hF3 (fun q hq e => .inr (.inr e))
        replace ff := ff.trans' hF3 (fun q hq e => absurd hq (by have := hvk q e; omega))
        replace bx1 := bx1.fr hF3 (fun e => by have := hvk _ e; omega)
        have neI := Row.apart_typ hdr bxI (by decide)
        replace bxI := Bx.fr bxI hF3 neI
        have neG := Row.apart_typ hdr hbx (by decide)
        replace hbx := Bx.fr hbx hF3 neG
        replace hwr := Row.fr hwr hF3 (fun k hk e => rows_ne hdr hwr k e hk)
        replace ha := ha.frZ hF3 (fun q hq e => by have := hvk q e; omega)
        replace hB := Nat.le_trans hB hF3.size
        clear hdr
        have hdr := hv3
        obtain ⟨da3, dc3, rfl⟩ := Row.form hdr
        -- world w3
        refine WL.fin HW ?_
        refine WH.take 5 rfl (by kernel_rfl) (by kernel_rfl) (by kernel_rfl) (fun _ _ _ _ _ h => h) rfl rfl rfl HW (RH.field rfl rfl (fun W => qa_api_Image_1 W _ _)) ?_
        refine WH.one 6 (by kernel_rfl) rfl ?_ 
        refine O.storeR rfl rfl rfl rfl rfl (qsF_s_uint8 w3 _ 1 _ _ _ _ _ _ bxI rfl) ?_
        rintro wa7 ⟨fa7, bxIx⟩
        replace bx1 := bx1.fr fa7 (fun e => by omega)
        replace ff := ff.trans' fa7 (fun q hq e => absurd hq (by omega))
        replace hwr := Row.fr hwr fa7 (fun k hk e => Row.apart_typ hwr bxI (by decide) (hk.trans (congrArg some e)))
        replace hdr := Row.fr hdr fa7 (fun k hk e => Row.apart_typ hdr bxI (by decide) (hk.trans (congrArg some e)))
        replace hbx := Bx.fr hbx fa7 (fun e => by omega)
        replace ha := ha.frZ fa7 (fun q hq e => by omega)
        replace hB := Nat.le_trans hB fa7.size
        replace HW := HW.trans' fa7 (fun q hq e => .inl e)
        clear bxI
        have bxI := bxIx
        clear bxIx
        refine WL.fin HW ?_
        obtain ⟨f2, hf21, hf22⟩ := rdRuns_some hsz hfu hxb.1 hn9
        refine WH.end (by kernel_rfl) ?_
        refine Xw.nblk ?_
        refine Xw.any (fun a k => ?_)
        refine ⟨min (xs ++ x9).length n2.toNat, by rw [List.length_append]; omega, by omega, xs ++ x9, f2, ca, cc, da3, dc3, a9, c9, r9, (by (repeat (refine Kn.cons k rfl ?_)); exact k.base), ff, bx1, bxI, hwr, hdr, hbx, ha, hc9, hxb.2.2.2.1, by omega, hB, hxby.app hxb.2.2.1, by rw [List.length_append]; omega, rfl, hf21, by rw [hrel, hf22]⟩
      · skip
        have hbx0 := hbx
        refine WL.callP (hr := (t_run Z g hZ ra rc r (by omega) hrc _ hbx ha hby)) rfl rfl rfl rfl rfl (fun W => qk_pack_reader_run W _) ?_
        rintro e w9 h9
        rcases h9 with ⟨hp, rfl, f9⟩ | ⟨x9, r9, xa9, xc9, a9, c9, hn9, rfl, hxn, hx9, ha9, hc9, f9⟩
        · refine .inr ⟨_, rfl, fun a k => ?_⟩
          exact And.intro k.defers (.inl ⟨by rw [parse_good hgood]; unfold parse4; rw [hn1]; simp only []; rw [hn2]; simp only []; rw [hn3]; simp only []; rw [hn4]; simp only []; rw [hws5]; simp only []; rw [hrel, rdRuns_none hsz hfu hp], rfl, ff.trans' f9 (fun q hq e => e)⟩)
        refine .inl ⟨_, rfl, ?_⟩
        replace ff := ff.trans' f9 (fun q hq e => e)
        replace HW := HW.trans' f9 (fun q hq e => .inr (.inl e))
        replace bx1 := bx1.fr f9 (fun e => by omega)
        replace bxI := Bx.fr bxI f9 (fun e => by omega)
        replace hwr := Row.fr hwr f9 (fun k hk e => Row.apart_typ hwr hbx0 (by decide) (hk.trans (congrArg some e)))
        replace hdr := Row.fr hdr f9 (fun k hk e => Row.apart_typ hdr hbx0 (by decide) (hk.trans (congrArg some e)))
        replace hB := Nat.le_trans hB f9.size
        clear hbx ha
        have hbx := hx9
        have ha := ha9
        have hxb := rdRun_len hby hn9
        refine WL.fin HW ?_
        refine WH.one 1 (by kernel_rfl) rfl ?_ 
        refine WL.ld rfl rfl rfl rfl rfl (ql_s_uint8 _ _ _ _ _ (bxI.cell (j := 1) rfl)) ?_
        refine WL.fin HW ?_
        refine WH.one 4 (by kernel_rfl) rfl ?_ 
        refine WL.append rfl rfl rfl rfl rfl rfl (R8.appN x9 _ hdr (by omega) (by omega) (by omega) hxn) ?_
        rintro v3 w3 ⟨hv3, hF3, ho3⟩
        have hvk := fun k hk => (Row.lt hdr k hk).1
        replace HW := HW.trans' hF3 (fun q hq e => .inr (.inr e))
        replace ff := ff.trans' hF3 (fun q hq e => absurd hq (by have := hvk q e; omega))
        replace bx1 := bx1.fr hF3 (fun e => by have := hvk _ e; omega)
        have neI := Row.apart_typ hdr bxI (by decide)
        replace bxI := Bx.fr bxI hF3 neI
        have neG := Row.apart_typ hdr hbx (by decide)
        replace hbx := Bx.fr hbx hF3 neG
        replace hwr := Row.fr hwr hF3 (fun k hk e => rows_ne hdr hwr k e hk)
        replace ha := ha.frZ hF3 (fun q hq e => by have := hvk q e; omega)
        replace hB := Nat.le_trans hB hF3.size
        clear hdr
        have hdr := hv3
        obtain ⟨da3, dc3, rfl⟩ := Row.form hdr
        -- world w3
        refine WL.fin HW ?_
        refine WH.take 5 rfl (by kernel_rfl) (by kernel_rfl) (by kernel_rfl) (fun _ _ _ _ _ h => h) rfl rfl rfl HW (RH.field rfl rfl (fun W => qa_api_Image_1 W _ _)) ?_
        refine WH.one 6 (by kernel_rfl) rfl ?_ 
        refine O.storeR rfl rfl rfl rfl rfl (qsF_s_uint8 w3 _ 1 _ _ _ _ _ _ bxI rfl) ?_
        rintro wa8 ⟨fa8, bxIx⟩
        replace bx1 := bx1.fr fa8 (fun e => by omega)
        replace ff := ff.trans' fa8 (fun q hq e => absurd hq (by omega))
        replace hwr := Row.fr hwr fa8 (fun k hk e => Row.apart_typ hwr bxI (by decide) (hk.trans (congrArg some e)))
        replace hdr := Row.fr hdr fa8 (fun k hk e => Row.apart_typ hdr bxI (by decide) (hk.trans (congrArg some e)))
        replace hbx := Bx.fr hbx fa8 (fun e => by omega)
        replace ha := ha.frZ fa8 (fun q hq e => by omega)
        replace hB := Nat.le_trans hB fa8.size
        replace HW := HW.trans' fa8 (fun q hq e => .inl e)
        clear bxI
        have bxI := bxIx
        clear bxIx
        refine WL.fin HW ?_
        obtain ⟨f2, hf21, hf22⟩ := rdRuns_some hsz hfu hxb.1 hn9
        refine WH.end (by kernel_rfl) ?_
        refine Xw.nblk ?_
        refine Xw.any (fun a k => ?_)
        refine ⟨min (xs ++ x9).length n2.toNat, by rw [List.length_append]; omega, by omega, xs ++ x9, f2, ca, cc, da3, dc3, a9, c9, r9, (by (repeat (refine Kn.cons k rfl ?_)); exact k.base), ff, bx1, bxI, hwr, hdr, hbx, ha, hc9, hxb.2.2.2.1, by omega, hB, hxby.app hxb.2.2.1, by rw [List.length_append]; omega, rfl, hf21, by rw [hrel, hf22]⟩
    · skip
      have hsz : n2.toNat ≤ xs.length := by have := of_decide_eq_false d1; omega
      refine WL.nil ?_
      refine TW.cond rfl (fun hb => by cases hb) (fun _ => ?_)
      refine TW.exit ?_
      refine Xw.thn (by simp) ?_
      refine Xw.thn (by simp) ?_
      refine Xw.hit ?_
      refine Xw.nrm ?_
      refine TW.sreg ?_
      refine WL.ld rfl rfl rfl rfl rfl (qlB_api_Image _ _ _ _ _ _ _ _ _ _ _ bxI) ?_
      refine O.storeR rfl rfl rfl rfl rfl (qsA_api_Image wd _ _ _ _ _ _ _ _ _ _ _ _ _ bx1) ?_
      rintro wa9 ⟨fa9, bx1x⟩
      replace bxI := bxI.fr fa9 (fun e => by omega)
      replace ff := ff.trans' fa9 (fun q hq e => absurd hq (by omega))
      replace hwr := Row.fr hwr fa9 (fun k hk e => Row.apart_typ hwr bx1 (by decide) (hk.trans (congrArg some e)))
      replace hdr := Row.fr hdr fa9 (fun k hk e => Row.apart_typ hdr bx1 (by decide) (hk.trans (congrArg some e)))
      replace hbx := Bx.fr hbx fa9 (fun e => by omega)
      replace ha := ha.frZ fa9 (fun q hq e => by omega)
      replace hB := Nat.le_trans hB fa9.size
      clear bx1
      have bx1 := bx1x
      clear bx1x
      refine WL.nil ?_
      refine TW.rt ?_
      refine O.retc1 rfl rfl (run_loadVar_row _ _ _ 25 _ _ _ bx1 Try.underlying25 rfl (by kernel_rfl)) ?_
      exact .inr ⟨⟨ws, xs, 268435456 + n3, n4⟩, by rw [parse_good hgood]; unfold parse4; rw [hn1]; simp only []; rw [hn2]; simp only []; rw [hn3]; simp only []; rw [hn4]; simp only []; rw [hws5]; simp only []; rw [hrel, rdRuns_end (by omega)], ⟨hwd, hxby⟩, ca, da, cc, dc, rfl, Row.base hwr (fun k hk => by have := (Row.lt hwr k hk).1; omega), Row.base hdr (fun k hk => by have := (Row.lt hdr k hk).1; omega), ff⟩
end Go.Proofs.Ytcombjhkbjbncaa
