/-
  The law's comparison of a machine with the document's own (layer 3): Alike. Two machines that lie in one world, apart (layer 3). A machine and the document's own in one world, apart (layer 3); what is left of small contracts. A machine and the document's own in one world, apart (layer 3). The law that a run of so many steps is one of fewer and then of these (layer 3): its walk. The law that any code runs as the document says (layer 3): its walk.
-/
import Derived.Test.YthhahfggbjegmaaGreatQRmO
import Derived.Test.YthhahfggbjegmaaGreatQDevFf
import Derived.Outline
import Derived.Test.YthhahfggbjegmaaGreatQRmR
import Derived.Deep.RegionWith
namespace Go.Proofs.YthhahfggbjegmaaGreat
open Go.RowKit
set_option linter.unusedVariables false
set_option linter.unusedSimpArgs false
theorem reg_out (b : Nat) (r : Int) (hr : r < 0 ∨ 32 ≤ r) (w : World) :
    Calls Tryz.prog 21 #[.pointer (some ⟨b, 0, none⟩), .int .i64 r] w fun e w' => e = .returned (.int .u32 0) ∧ w' = w := by
  by_cases h : r < 0
  · go_enter Tryz.func21, Tryz.ntmps21
    go_wp2
    go_ret
    exact ⟨rfl, rfl⟩
  · have h1 : decide (r < 0) = false := decide_eq_false h
    have h2 : 32 ≤ r := by omega
    clear hr h
    go_enter Tryz.func21, Tryz.ntmps21
    go_wp2
    go_ret
    exact ⟨rfl, rfl⟩
theorem data_ex (b : Nat) (lv : Value) (S : Value → World → Prop) (w : World) (hx : w.cell? ⟨b, 36, none⟩ = some lv) (H : Hid (Calls Tryz.prog 24 #[lv] w fun e w' => ∃ v, e = .returned v ∧ S v w')) :
    Calls Tryz.prog 20 #[.pointer (some ⟨b, 0, none⟩)] w fun e w' => ∃ v, e = .returned v ∧ S v w' := by
  go_enter Tryz.func20, Tryz.ntmps20
  go_wp2_with (go_at_call 24; (with_reducible refine H.out.mono ?_); rintro e w1 ⟨v, rfl, h1⟩; have H1 := Lib.hid h1; clear h1)
  go_ret
  exact ⟨v, rfl, H1.out⟩
def DataIs (w : World) (n : Nat) (d : Nat → Int) (v : Value) (w' : World) : Prop :=
  ∃ g c, v = .slice (some ⟨g, 0, none⟩) n c ∧ Fr (fun _ => False) w w' ∧ w.heap.size ≤ g ∧ n ≤ c ∧ c ≤ 9223372036854775807 ∧ (∀ k, k < n → w'.cell? ⟨g, k, none⟩ = some (.int .u8 (d k)) ∧ w'.frozen? ⟨g, k, none⟩ = false)
theorem data_at {base : Nat} {L : Lay} {lv : Value} {s : MSt} {w : World} (h : At base w L lv s) (hw : Wf base L lv) :
    Calls Tryz.prog 20 #[.pointer (some ⟨L.b, 0, none⟩)] w fun e w' => ∃ v, e = .returned v ∧ DataIs w L.dn s.data v w' := by
  have hl : ((List.range L.dn).map fun k => Value.int .u8 (s.data k)).length = L.dn := by simp
  have hC := dv57 ⟨L.db, L.dof, none⟩ L.dn L.dc ((List.range L.dn).map fun k => Value.int .u8 (s.data k)) hl (by have := hw.dn; omega) w (fun j u hu => by
    simp only [List.getElem?_map, Option.map_eq_some_iff] at hu
    obtain ⟨k, hk, rfl⟩ := hu
    obtain ⟨h1, h2⟩ := List.getElem?_eq_some_iff.1 hk
    simp at h1 h2
    subst h2
    rw [Addr.add_lit]; exact h.byte j h1) (fun u hu => by
    simp only [List.mem_map] at hu
    obtain ⟨k, _, rfl⟩ := hu
    rfl)
  refine (data_ex L.b _ (fun v w' => v ≠ .slice none 0 0 ∧ w'.ownsRow w.heap.size 5 1 v L.dn ((List.range L.dn).map fun k => Value.int .u8 (s.data k)) ∧ w.grownBy w' none) w h.dat (Lib.hid hC)).mono ?_
  rintro e w1 ⟨v', rfl, h1⟩
  obtain ⟨hne, hown, hg⟩ := h1
  rcases hown.2 with ⟨e1, _⟩ | ⟨g, cap, cur, hv', hb, hgg, hc1, hc2, _⟩
  · exact absurd e1 hne
  subst hv'
  refine ⟨_, rfl, g, cap, rfl, Fr.of_by0 hg, hb, hc1, by unfold maxLen at hc2; omega, fun k hk => ⟨?_, hown.frozenAt k⟩⟩
  rw [hown.cellAt k (by omega)]
  simp [hk]
def RecAt (w : World) (a : Option Addr) (l : List (Int × Int)) : Prop :=
  ∀ k, k < l.length → ∃ b o, a = some ⟨b, o, none⟩ ∧ w.cell? ⟨b, o + k * 2, none⟩ = some (.int .u32 (l.getD k (0, 0)).1) ∧ w.cell? ⟨b, o + k * 2 + 1, none⟩ = some (.int .u32 (l.getD k (0, 0)).2)
theorem rlog_form {base : Nat} {w : World} {R : RLay} {gb : Nat} {lv : Value} {s : MSt} (h : RAt base w R gb lv s) : ∃ a c, lv = .slice a s.log.length c ∧ RecAt w a s.log := by
  have ho := h.own
  by_cases hv : lv = .slice none 0 0
  · have h0 : s.log.length = 0 := by
      rcases ho.2 with ⟨_, e⟩ | ⟨g, c, cur, e, _⟩
      · exact e
      · rw [hv] at e; cases e
    exact ⟨none, 0, by rw [h0]; exact hv, fun k hk => by omega⟩
  · obtain ⟨g, c, e, _, _⟩ := own_form ho hv
    refine ⟨some ⟨g, 0, none⟩, c, e, fun k hk => ⟨g, 0, rfl, ?_⟩⟩
    rw [e] at ho
    have hl2 := recCells_len s.log
    have c1 := ho.cellAt (k * 2) (by omega)
    have c2 := ho.cellAt (k * 2 + 1) (by omega)
    obtain ⟨r1, r2⟩ := recCells_get s.log k hk
    rw [Nat.zero_add, c1, c2, r1, r2]
    exact ⟨rfl, rfl⟩
set_option maxRecDepth 100000 in
set_option maxHeartbeats 8000000 in
theorem alike_at {base base2 : Nat} {w : World} {L : Lay} {lv : Value} {s : MSt} {R : RLay} {gb : Nat} {rv : Value} (h : At base w L lv s) (hw : Wf base L lv) (r : RAt base2 w R gb rv s) (rw' : RWf base2 R gb rv) (hdn : R.dn = L.dn) (hl : s.log.length ≤ 1000000) :
    Calls Tryz.prog 16 #[.pointer (some ⟨L.b, 0, none⟩), .pointer (some ⟨R.rb, 0, none⟩)] w fun e w' => e = .returned (.bool true) ∧ Fr (fun _ => False) w w' := by
  obtain ⟨ra, rc, rfl, hra⟩ := rlog_form r
  have HLOG := Lib.hid (log_at h hw hl)
  have HDAT : Hid (∀ W, Fr (fun _ => False) w W → Calls Tryz.prog 20 #[.pointer (some ⟨L.b, 0, none⟩)] W fun e w' => ∃ v, e = .returned v ∧ DataIs W L.dn s.data v w') := Lib.hid (fun W hW => data_at (h.grown0 hW) hw)
  have G22 := Lib.hid (fun W (hW : Fr (fun _ => False) w W) => dv22 L.b (s.c 40) W ((h.grown0 hW).num 40 (.inr (by decide))))
  have G23 := Lib.hid (fun W (hW : Fr (fun _ => False) w W) => dv23 L.b (s.c 39) W ((h.grown0 hW).num 39 (.inr (by decide))))
  have G24 := Lib.hid (fun W (hW : Fr (fun _ => False) w W) => dv24 L.b (s.c 32) W ((h.grown0 hW).num 32 (.inl (by decide))))
  have G27 := Lib.hid (fun W (hW : Fr (fun _ => False) w W) => dv27 L.b (s.c 41) W ((h.grown0 hW).num 41 (.inr (by decide))))
  have G26 := Lib.hid (fun (q : Nat) (hq : q < 32) W (hW : Fr (fun _ => False) w W) => dv26 L.b q hq (s.c q) W ((h.grown0 hW).reg hq))
  have p0 := h.bw 32 (.inl (by decide))
  have p1 := h.bu 32 (.inl (by decide)) rfl
  have HC := Lib.hid (fun W (hW : Fr (fun _ => False) w W) => show W.cell? ⟨R.rb, 7, none⟩ = some (.slice ra s.log.length rc) ∧ W.cell? ⟨R.rb, 1, none⟩ = some (.slice (some ⟨R.db, 0, none⟩) R.dn R.dc) ∧ W.cell? ⟨R.rb, 3, none⟩ = some (.slice (some ⟨gb, 0, none⟩) 32 32) ∧ W.cell? ⟨R.rb, 4, none⟩ = some (.int .i64 (s.c 32)) ∧ W.cell? ⟨R.rb, 8, none⟩ = some (.int .i64 (s.c 39)) ∧ W.cell? ⟨R.rb, 9, none⟩ = some (.int .i64 (s.c 40)) ∧ W.cell? ⟨R.rb, 10, none⟩ = some (.int .u32 (s.c 41)) from
    ⟨hW.cell r.logv id, hW.cell r.dat id, hW.cell r.regs id, hW.cell (r.num 4 (.inl rfl)) id, hW.cell (r.num 8 (.inr (.inr (.inr (.inl rfl))))) id, hW.cell (r.num 9 (.inr (.inr (.inr (.inr (.inl rfl)))))) id, hW.cell (r.num 10 (.inr (.inr (.inr (.inr (.inr rfl)))))) id⟩)
  have HREG := Lib.hid (fun q (hq : q < 32) W (hW : Fr (fun _ => False) w W) => hW.cell (r.reg q hq) id)
  have HBY := Lib.hid (fun k (hk : k < R.dn) W (hW : Fr (fun _ => False) w W) => hW.cell (r.byte k hk) id)
  have HRA := Lib.hid hra
  have dn1 : R.dn ≤ 65536 := rw'.dn.2.1
  obtain ⟨n, hn⟩ : ∃ n, s.log.length = n := ⟨_, rfl⟩
  rw [hn] at HC hl
  rw [← hdn] at HDAT
  have HN := Lib.hid hn
  have dv : Hid (∀ W v W', DataIs W R.dn s.data v W' → ∃ g c, v = .slice (some ⟨g, 0, none⟩) R.dn c ∧ Fr (fun _ => False) W W' ∧ ∀ k, k < R.dn → W'.cell? ⟨g, k, none⟩ = some (.int .u8 (s.data k))) := Lib.hid (fun W v W' ⟨g, c, e, f, _, _, _, q⟩ => ⟨g, c, e, f, fun k hk => (q k hk).1⟩)
  generalize s.c 32 = t32 at *
  generalize s.c 39 = t39 at *
  generalize s.c 40 = t40 at *
  generalize s.c 41 = t41 at *
  generalize L.b = pb at *
  generalize R.rb = rb at *
  generalize R.dn = dn at *
  clear h hw r rw' hdn hra hn
  go_enter Tryz.func16, Tryz.ntmps16
  go_wp2_with fail
  go_at_call 12
  refine HLOG.out.mono ?_
  rintro e w1 ⟨v, rfl, al, cl, rfl, hf1, hcl⟩
  rw [HN.out]
  have HF1 := Lib.hid hf1
  have HCL := Lib.hid hcl
  clear hf1 hcl
  go_wp2_with fail
  go_at_call 20
  refine (HDAT.out _ HF1.out).mono ?_
  rintro e w2 ⟨v, rfl, hd⟩
  obtain ⟨g, c, rfl, hf2, hb2⟩ := dv.out _ _ _ hd
  have HF2 := Lib.hid (HF1.out.trans hf2)
  have HF12 := Lib.hid hf2
  have HB2 := Lib.hid hb2
  clear hd hf2 hb2
  obtain ⟨z7, z1, z3, z4, z8, z9, z10⟩ := HC.out _ HF2.out
  go_wp2_with fail
  go_quiet ((first
    | (go_at_call 22; exact Calls.quiet_of_same (G24.out _ (HF2.out.drewN _)))
    | (go_at_call 13; exact Calls.quiet_of_same (G23.out _ (HF2.out.drewN _)))
    | (go_at_call 29; exact Calls.quiet_of_same (G22.out _ (HF2.out.drewN _)))
    | (go_at_call 30; exact Calls.quiet_of_same (G27.out _ (HF2.out.drewN _)))))
  go_wp2_with fail
  have HQ := Lib.hid ((Fr.refl (fun _ => False) w2).drewN nq)
  clear z7 z1 z3 z4 z8 z9 z10
  go_loopw [7] (fun q wr => ∃ k : Nat, q = .int .i64 k ∧ k ≤ n ∧ Hid (Fr (fun _ => False) w2 wr)) (fun q _ => n - (intOf q).toNat)
  case atStart => exact ⟨0, rfl, Nat.zero_le _, HQ⟩
  case round =>
    obtain ⟨k, rfl, hk, HW⟩ := hrel
    clear HQ
    obtain ⟨z7, z1, z3, z4, z8, z9, z10⟩ := HC.out _ (HF2.out.trans HW.out)
    clear z4 z8 z9 z10
    by_cases hlt : k < n
    · clear z1 z3
      obtain ⟨b1, o1, rfl, _, q1, q2⟩ := HCL.out k (by rw [HN.out]; exact hlt)
      obtain ⟨b2, o2, rfl, q3, q4⟩ := HRA.out k (by rw [HN.out]; exact hlt)
      have q1 := (HF12.out.trans HW.out).cell q1 id
      have q2 := (HF12.out.trans HW.out).cell q2 id
      have q3 := (HF2.out.trans HW.out).cell q3 id
      have q4 := (HF2.out.trans HW.out).cell q4 id
      generalize (s.log.getD k (0, 0)).1 = x1 at *
      generalize (s.log.getD k (0, 0)).2 = x2 at *
      have t0 : (0 : Int) ≤ k := by omega
      have t1 : (k : Int) < n := by omega
      go_wp2
      go_quiet (fail)
      go_wp2
      go_roundw
      case rel => exact ⟨k + 1, by go_num, by omega, Lib.hid (HW.out.drewN _)⟩
      case measure => simp [intOf]; omega
    · obtain rfl : k = n := by omega
      clear z7 z3
      go_wp2
      have HB2' := HB2
      clear z1
      go_loopw [8] (fun q w4 => ∃ k : Nat, q = .int .i64 k ∧ k ≤ dn ∧ Hid (Fr (fun _ => False) w2 w4)) (fun q _ => dn - (intOf q).toNat)
      case atStart => exact ⟨0, rfl, Nat.zero_le _, HW⟩
      case round =>
        clear HW
        obtain ⟨j, rfl, hj, HW⟩ := hrel
        obtain ⟨z7, z1, z3, z4, z8, z9, z10⟩ := HC.out _ (HF2.out.trans HW.out)
        clear z7 z4 z8 z9 z10
        by_cases hlt : j < dn
        · clear z3
          have q1 := HW.out.cell (HB2.out j hlt) id
          have q2 := HBY.out j hlt _ (HF2.out.trans HW.out)
          have t0 : (0 : Int) ≤ j := by omega
          have t1 : (j : Int) < dn := by omega
          generalize s.data j = x1 at *
          go_wp2
          go_quiet (fail)
          go_wp2
          go_roundw
          case rel => exact ⟨j + 1, by go_num, by omega, Lib.hid (HW.out.drewN _)⟩
          case measure => simp [intOf]; omega
        · obtain rfl : j = dn := by omega
          clear z1 z3
          go_wp2
          go_loopw [9] (fun q w4 => ∃ k : Nat, q = .int .i64 k ∧ k ≤ 32 ∧ Hid (Fr (fun _ => False) w2 w4)) (fun q _ => 32 - (intOf q).toNat)
          case atStart => exact ⟨0, rfl, Nat.zero_le _, HW⟩
          case round =>
            clear HW
            obtain ⟨q, rfl, hq, HW⟩ := hrel
            obtain ⟨z7, z1, z3, z4, z8, z9, z10⟩ := HC.out _ (HF2.out.trans HW.out)
            clear z7 z1 z4 z8 z9 z10
            by_cases hlt : q < 32
            · have q1 := HREG.out q hlt _ (HF2.out.trans HW.out)
              have G := Lib.hid (G26.out q hlt)
              have t0 : (0 : Int) ≤ q := by omega
              have t1 : (q : Int) < 32 := by omega
              generalize s.c q = x1 at *
              go_wp2
              go_quiet ((go_at_call 21; exact Calls.quiet_of_same (G.out _ ((HF2.out.trans HW.out).drewN _))))
              go_wp2
              go_roundw
              case rel => exact ⟨q + 1, by go_num, by omega, Lib.hid (HW.out.drewN _)⟩
              case measure => simp [intOf]; omega
            · obtain rfl : q = 32 := by omega
              clear z3
              go_wp2_with (go_at_call 21; (first | (with_reducible refine (reg_out pb (-1) (by decide) _).mono ?_) | (with_reducible refine (reg_out pb 32 (by decide) _).mono ?_)); rintro e w5 ⟨rfl, rfl⟩)
              go_ret
              exact ⟨rfl, HF2.out.trans HW.out⟩
/-- What a machine reads is not written by another. -/
structure Free (L : Lay) (lv : Value) (L' : Lay) (lv' : Value) : Prop where
  foot : ∀ k, Foot L lv k → ¬ Foot L' lv' k
  code : ¬ Foot L' lv' L.cb
  ins : ∀ a, L.ia = some a → ¬ Foot L' lv' a.block
structure Pair (w0 W : World) (ba bb : Nat) (La : Lay) (lva : Value) (sa : MSt) (Lb : Lay) (lvb : Value) (sb : MSt) : Prop where
  aa : At ba W La lva sa
  wa : Wf ba La lva
  ab : At bb W Lb lvb sb
  wb : Wf bb Lb lvb
  fr : Fr (fun _ => False) w0 W
  na : NewM w0 La lva
  nb : NewM w0 Lb lvb
  fa : Free La lva Lb lvb
  fb : Free Lb lvb La lva
theorem Pair.swap {w0 W : World} {ba bb : Nat} {La Lb : Lay} {lva lvb : Value} {sa sb : MSt} (h : Pair w0 W ba bb La lva sa Lb lvb sb) : Pair w0 W bb ba Lb lvb sb La lva sa :=
  ⟨h.ab, h.wb, h.aa, h.wa, h.fr, h.nb, h.na, h.fb, h.fa⟩
theorem Pair.quiet {w0 W W' : World} {ba bb : Nat} {La Lb : Lay} {lva lvb : Value} {sa sb : MSt} (h : Pair w0 W ba bb La lva sa Lb lvb sb) (hf : Fr (fun _ => False) W W') : Pair w0 W' ba bb La lva sa Lb lvb sb :=
  ⟨h.aa.grown0 hf, h.wa, h.ab.grown0 hf, h.wb, h.fr.trans hf, h.na, h.nb, h.fa, h.fb⟩
theorem foot_lt {base : Nat} {w : World} {L : Lay} {lv : Value} {s : MSt} (h : At base w L lv s) (hw : Wf base L lv) {k : Nat} (hk : Foot L lv k) : k < w.heap.size := by
  obtain ⟨h1, h2, h3, h4⟩ := h.lts hw
  rcases hk with e | e | e
  · omega
  · omega
  · exact h4 k e
/-- The first of two machines was turned. -/
theorem Pair.turn {w0 W W' : World} {ba bb : Nat} {La Lb : Lay} {lva lvb : Value} {sa sb sa' : MSt} (h : Pair w0 W ba bb La lva sa Lb lvb sb) (hk : Okay ba La lva W W' sa') : ∃ lva', Pair w0 W' ba bb La lva' sa' Lb lvb sb := by
  obtain ⟨lva', a', w', r, g⟩ := hk
  have hold : ∀ k, k < W.heap.size → Foot La lva' k → Foot La lva k := fun k hk hf => by
    rcases hf with e | e | e
    · exact .inl e
    · exact .inr (.inl e)
    · rcases g k e with q | q
      · exact .inr (.inr q)
      · omega
  have hnew : ∀ k, Foot La lva' k → Foot La lva k ∨ W.heap.size ≤ k := fun k hf => by
    by_cases hk : k < W.heap.size
    · exact .inl (hold k hk hf)
    · exact .inr (by omega)
  obtain ⟨b1, b2, b3, b4⟩ := h.ab.lts h.wb
  have hfa : ∀ k, Foot Lb lvb k → ¬ Foot La lva k := h.fb.foot
  refine ⟨lva', a', w', h.ab.kept r (hfa _ (.inl rfl)) (hfa _ (.inr (.inl rfl))) (fun k e => hfa k (.inr (.inr e))) h.fb.code h.fb.ins, h.wb, okay_new h.fr h.na r, new_next h.na h.fr.size g, h.nb, ⟨fun k hf hb => ?_, h.fa.code, h.fa.ins⟩, ⟨fun k hb hf => ?_, fun hf => ?_, fun a e hf => ?_⟩⟩
  · rcases hnew k hf with q | q
    · exact h.fa.foot k q hb
    · have := foot_lt h.ab h.wb hb; omega
  · rcases hnew k hf with q | q
    · exact h.fb.foot k hb q
    · have := foot_lt h.ab h.wb hb; omega
  · rcases hnew _ hf with q | q
    · exact h.fb.code q
    · omega
  · rcases hnew _ hf with q | q
    · exact h.fb.ins a e q
    · have := h.ab.ilt a e; omega
/-- Two machines made one after the other. -/
theorem Pair.start {w0 w1 wa wb : World} {ds : List Int} {La Lb : Lay} (f0 : Fr (fun _ => False) w0 w1) (Aa : At w1.heap.size wa La (.slice none 0 0) (initM ds)) (Wa : Wf w1.heap.size La (.slice none 0 0)) (Fa : Fr (fun _ => False) w1 wa)
    (sa1 : w1.heap.size ≤ La.b) (sa2 : w1.heap.size ≤ La.db) (Ab : At wa.heap.size wb Lb (.slice none 0 0) (initM ds)) (Wb : Wf wa.heap.size Lb (.slice none 0 0)) (Fb : Fr (fun _ => False) wa wb)
    (sb1 : wa.heap.size ≤ Lb.b) (sb2 : wa.heap.size ≤ Lb.db) (sb3 : wa.heap.size ≤ Lb.cb) (sb4 : ∀ a, Lb.ia = some a → wa.heap.size ≤ a.block) :
    Pair w0 wb w1.heap.size wa.heap.size La (.slice none 0 0) (initM ds) Lb (.slice none 0 0) (initM ds) := by
  obtain ⟨a1, a2, a3, a4⟩ := Aa.lts Wa
  have z0 := f0.size
  have z1 := Fa.size
  refine ⟨Aa.grown0 Fb, Wa, Ab, Wb, (f0.trans Fa).trans Fb, new_start (by omega) (by omega), new_start (by omega) (by omega), ⟨fun k hk hk2 => ?_, fun hk2 => ?_, fun a e hk2 => ?_⟩, ⟨fun k hk hk2 => ?_, fun hk2 => ?_, fun a e hk2 => ?_⟩⟩
  · have h1 := foot_lt Aa Wa hk
    rcases hk2 with q | q | q
    · omega
    · omega
    · cases q
  · rcases hk2 with q | q | q
    · omega
    · omega
    · cases q
  · have := Aa.ilt a e
    rcases hk2 with q | q | q
    · omega
    · omega
    · cases q
  · have h1 := foot_lt Aa Wa hk2
    rcases hk with q | q | q
    · omega
    · omega
    · cases q
  · have h1 := foot_lt Aa Wa hk2
    omega
  · have h1 := foot_lt Aa Wa hk2
    have := sb4 a e
    omega
/-- An old list is far from a machine. -/
theorem far_old {w0 W : World} {L : Lay} {lv : Value} (hn : NewM w0 L lv) (hf : Fr (fun _ => False) w0 W) {v : Value} {l : List Int} (h : I64s (fun _ => True) w0 v l) : I64s (Far L lv W) W v l := by
  obtain ⟨a, c, e, h1, h2, h3⟩ := h
  by_cases h0 : l = []
  · exact ⟨a, c, e, h1, h2, .inl h0⟩
  · obtain ⟨b, o, ea, hp, hc⟩ := h3.resolve_left h0
    have hb := World.block_lt_of_cell? w0 _ (hc 0 (List.length_pos_iff.2 h0))
    have hsz := hf.size
    exact ⟨a, c, e, h1, h2, .inr ⟨b, o, ea, ⟨fun q => hn b hb (.inl q), fun q => hn b hb (.inr (.inl q)), fun q => hn b hb (.inr (.inr q)), by show b < W.heap.size; have : b < w0.heap.size := hb; omega⟩, fun k hk => hf.cell (hc k hk) id⟩⟩
/-- A list of the call's own is far from a machine that was there before it. -/
theorem far_own {base : Nat} {W W' : World} {L : Lay} {lv : Value} {s : MSt} (ha : At base W L lv s) (hw : Wf base L lv) (hf : Fr (fun _ => False) W W') {v : Value} {l : List Int}
    (h : W'.ownsRow W.heap.size 3 1 v l.length (l.map (Value.int .i64))) : I64s (Far L lv W') W' v l := by
  by_cases hv : v = .slice none 0 0
  · have hl : l.length = 0 := by
      rcases h.2 with ⟨_, e⟩ | ⟨g, c, cur, e, _⟩
      · exact e
      · rw [hv] at e; cases e
    exact ⟨none, 0, by rw [hv, hl], by omega, by omega, .inl (List.length_eq_zero_iff.1 hl)⟩
  · rcases h.2 with ⟨e, _⟩ | ⟨g, c, cur, e, hb, hg, hnc, hcm, _⟩
    · exact absurd e hv
    · refine ⟨_, c, e, hnc, by unfold maxLen at hcm; omega, .inr ⟨g, 0, rfl, ⟨?_, ?_, ?_, ?_⟩, fun k hk => ?_⟩⟩
      · have := foot_lt ha hw (.inl rfl); omega
      · have := foot_lt ha hw (.inr (.inl rfl)); omega
      · intro q; have := foot_lt ha hw (.inr (.inr q)); omega
      · exact (Array.getElem?_eq_some_iff.1 hg).1
      · have h' := h
        rw [e] at h'
        rw [Nat.zero_add, h'.cellAt k (by omega)]
        simp [hk, List.getD_eq_getElem?_getD]
theorem rm_may (n m : Nat) (hn : n ≤ 100000) (hm : m ≤ 100000) (w : World) :
    Calls Tryz.prog 9 #[.int .i64 n, .int .i64 m] w fun e w' => e = .returned (.int .i64 (if mayB n m = true then 0 else 1)) ∧ w = w' := by
  have h0 : (0 : Int) ≤ n := by omega
  have h1 : (0 : Int) ≤ m := by omega
  cases h : mayB n m with
  | true =>
    rw [if_pos rfl]
    unfold mayB at h
    split at h; · cases h
    split at h; · cases h
    split at h; · cases h
    split at h; · cases h
    rename_i q1 q2 q3 q4
    have e1 : ((m : Int) % 4 != 0) = false := by rw [bne_eq_false_iff_eq]; exact beq_iff_eq.1 h
    have e2 : ((m : Int) % 4 == 0) = true := h
    have t1 : ¬ n < 1 := by omega
    have t2 : n ≤ 32768 := by omega
    have t3 : ¬ m < 4 := by omega
    have t4 : m ≤ 65536 := by omega
    have d1 : decide (n < 1) = false := decide_eq_false t1
    have d3 : decide (m < 4) = false := decide_eq_false t3
    have d5 : decide ((n : Int) < 1) = false := decide_eq_false (by omega)
    have d6 : decide ((m : Int) < 4) = false := decide_eq_false (by omega)
    clear h q1 q2 q3 q4
    go_enter Tryz.func9, Tryz.ntmps9
    go_wp2
    go_ret
    exact ⟨rfl, rfl⟩
  | false =>
    rw [if_neg (by decide)]
    by_cases q1 : (n : Int) < 1
    · go_enter Tryz.func9, Tryz.ntmps9
      go_wp2
      go_ret
      exact ⟨rfl, rfl⟩
    by_cases q2 : 32768 < (n : Int)
    · have d5 : decide ((n : Int) < 1) = false := decide_eq_false q1
      go_enter Tryz.func9, Tryz.ntmps9
      go_wp2
      go_ret
      exact ⟨rfl, rfl⟩
    by_cases q3 : (m : Int) < 4
    · have d5 : decide ((n : Int) < 1) = false := decide_eq_false q1
      have d6 : decide (32768 < (n : Int)) = false := decide_eq_false q2
      go_enter Tryz.func9, Tryz.ntmps9
      go_wp2
      go_ret
      exact ⟨rfl, rfl⟩
    by_cases q4 : 65536 < (m : Int)
    · have d5 : decide ((n : Int) < 1) = false := decide_eq_false q1
      have d6 : decide (32768 < (n : Int)) = false := decide_eq_false q2
      have d7 : decide ((m : Int) < 4) = false := decide_eq_false q3
      go_enter Tryz.func9, Tryz.ntmps9
      go_wp2
      go_ret
      exact ⟨rfl, rfl⟩
    have q5 : ((m : Int) % 4 == 0) = false := by
      unfold mayB at h
      rw [if_neg q1, if_neg q2, if_neg q3, if_neg q4] at h
      exact h
    have q6 : ((m : Int) % 4 != 0) = true := by rw [bne_iff_ne]; exact beq_eq_false_iff_ne.1 q5
    have d5 : decide ((n : Int) < 1) = false := decide_eq_false q1
    have d6 : decide (32768 < (n : Int)) = false := decide_eq_false q2
    have d7 : decide ((m : Int) < 4) = false := decide_eq_false q3
    have d8 : decide (65536 < (m : Int)) = false := decide_eq_false q4
    clear h
    go_enter Tryz.func9, Tryz.ntmps9
    go_wp2
    go_ret
    exact ⟨rfl, rfl⟩
theorem step_nil (w : World) : Calls Tryz.prog 10 #[.pointer none] w fun e w' => e = .returned (.int .i64 0) ∧ w = w' := by
  go_enter Tryz.func10, Tryz.ntmps10
  go_wp2
  go_ret
  exact ⟨rfl, rfl⟩
theorem run_nil (n v : Value) (w : World) : Calls Tryz.prog 11 #[.pointer none, n, v] w fun e w' => e = .returned (.int .i64 0) ∧ w = w' := by
  go_enter Tryz.func11, Tryz.ntmps11
  go_wp2
  go_ret
  exact ⟨rfl, rfl⟩
theorem log_nil (w : World) : Calls Tryz.prog 12 #[.pointer none] w fun e w' => e = .returned (.slice none 0 0) ∧ w = w' := by
  go_enter Tryz.func12, Tryz.ntmps12
  go_wp2
  go_ret
  exact ⟨rfl, rfl⟩
theorem steps_nil (w : World) : Calls Tryz.prog 13 #[.pointer none] w fun e w' => e = .returned (.int .i64 0) ∧ w = w' := by
  go_enter Tryz.func13, Tryz.ntmps13
  go_wp2
  go_ret
  exact ⟨rfl, rfl⟩
def stepM (L : Lay) (s : MSt) : MSt := if s.c 40 = 0 then advM L s else s
set_option maxRecDepth 100000 in
theorem step_run (b : Nat) (x : Int) (S : World → Prop) (w : World) (hx : w.cell? ⟨b, 40, none⟩ = some (.int .i64 0)) (HA : Hid (Calls Tryz.prog 26 #[.pointer (some ⟨b, 0, none⟩)] w fun e w' => e = .returned (.tuple #[]) ∧ S w')) (HC : Hid (∀ w2, S w2 → w2.cell? ⟨b, 40, none⟩ = some (.int .i64 x))) :
    Calls Tryz.prog 10 #[.pointer (some ⟨b, 0, none⟩)] w fun e w' => e = .returned (.int .i64 x) ∧ S w' := by
  go_enter Tryz.func10, Tryz.ntmps10
  go_wp2_with (go_at_call 26; (with_reducible refine HA.out.mono ?_); rintro e w2 ⟨rfl, hs⟩; have HS := Lib.hid hs; have c40 := HC.out _ hs; clear hs)
  go_ret
  exact ⟨rfl, HS.out⟩
theorem step_off (b : Nat) (x : Int) (w : World) (hx : w.cell? ⟨b, 40, none⟩ = some (.int .i64 x)) (h0 : x ≠ 0) :
    Calls Tryz.prog 10 #[.pointer (some ⟨b, 0, none⟩)] w fun e w' => e = .returned (.int .i64 x) ∧ w = w' := by
  have e1 : (x == 0) = false := by rw [beq_eq_false_iff_ne]; exact h0
  clear h0
  go_enter Tryz.func10, Tryz.ntmps10
  go_wp2
  go_ret
  exact ⟨rfl, rfl⟩
theorem step_at {base : Nat} {L : Lay} {lv : Value} {s : MSt} {w : World} (h : At base w L lv s) (hw : Wf base L lv) (hl : (s.log.length : Int) ≤ s.c 39) (hn : s.c 39 ≤ 800000) :
    Calls Tryz.prog 10 #[.pointer (some ⟨L.b, 0, none⟩)] w fun e w' => e = .returned (.int .i64 ((stepM L s).c 40)) ∧ Okay base L lv w w' (stepM L s) := by
  have hx : w.cell? ⟨L.b, 40, none⟩ = some (.int .i64 (s.c 40)) := h.num 40 (.inr (by decide))
  unfold stepM
  by_cases h0 : s.c 40 = 0
  · rw [if_pos h0]
    rw [h0] at hx
    exact step_run L.b _ (fun w' => Okay base L lv w w' (advM L s)) w hx (Lib.hid (advance_at h hw hl hn)) (Lib.hid fun w2 ⟨lv', a, f, _, _⟩ => a.num 40 (.inr (by decide)))
  · rw [if_neg h0]
    refine (step_off L.b _ w hx h0).mono ?_
    rintro e w' ⟨rfl, rfl⟩
    exact ⟨rfl, Okay.quiet h hw (Fr.refl _ _)⟩
theorem rm_step_at' {base : Nat} {R : RLay} {gb : Nat} {lv : Value} {s : MSt} {w : World} (h : RAt base w R gb lv s) (hw : RWf base R gb lv) (hl : (s.log.length : Int) ≤ s.c 39) (hn : s.c 39 ≤ 800000) :
    Calls Tryz.prog 17 #[.pointer (some ⟨R.rb, 0, none⟩)] w fun e w' => e = .returned (.tuple #[]) ∧ ROkay base R gb lv w w' (stepM R.lay s) := by
  unfold stepM
  by_cases h0 : s.c 40 = 0
  · rw [if_pos h0]
    exact rm_step_at h hw hl hn h0
  · rw [if_neg h0]
    refine (rm_step_off R.rb (s.c 40) w (h.num 9 (.inr (.inr (.inr (.inr (.inl rfl)))))) h0).mono ?_
    rintro e w' ⟨rfl, rfl⟩
    exact ⟨rfl, ROkay.quiet h hw (Fr.refl _ _)⟩
def failS (s : MSt) : MSt := if s.c 40 = 0 then failM s else s
theorem fail_off (b : Nat) (x : Int) (w : World) (hx : w.cell? ⟨b, 40, none⟩ = some (.int .i64 x)) (h0 : x ≠ 0) :
    Calls Tryz.prog 19 #[.pointer (some ⟨b, 0, none⟩)] w fun e w' => e = .returned (.tuple #[]) ∧ w = w' := by
  have e1 : (x == 0) = false := by rw [beq_eq_false_iff_ne]; exact h0
  clear h0
  go_enter Tryz.func19, Tryz.ntmps19
  go_wp2
  go_end0
  exact ⟨rfl, rfl⟩
theorem rm_fail_off (b : Nat) (x : Int) (w : World) (hx : w.cell? ⟨b, 9, none⟩ = some (.int .i64 x)) (h0 : x ≠ 0) :
    Calls Tryz.prog 18 #[.pointer (some ⟨b, 0, none⟩)] w fun e w' => e = .returned (.tuple #[]) ∧ w = w' := by
  have e1 : (x == 0) = false := by rw [beq_eq_false_iff_ne]; exact h0
  clear h0
  go_enter Tryz.func18, Tryz.ntmps18
  go_wp2
  go_end0
  exact ⟨rfl, rfl⟩
theorem fail_at' {base : Nat} {L : Lay} {lv : Value} {s : MSt} {w : World} (h : At base w L lv s) (hw : Wf base L lv) :
    Calls Tryz.prog 19 #[.pointer (some ⟨L.b, 0, none⟩)] w fun e w' => e = .returned (.tuple #[]) ∧ Okay base L lv w w' (failS s) := by
  unfold failS
  by_cases h0 : s.c 40 = 0
  · rw [if_pos h0]; exact fail_at h hw h0
  · rw [if_neg h0]
    refine (fail_off L.b (s.c 40) w (h.num 40 (.inr (by decide))) h0).mono ?_
    rintro e w' ⟨rfl, rfl⟩
    exact ⟨rfl, Okay.quiet h hw (Fr.refl _ _)⟩
theorem rm_fail_at' {base : Nat} {R : RLay} {gb : Nat} {lv : Value} {s : MSt} {w : World} (h : RAt base w R gb lv s) (hw : RWf base R gb lv) :
    Calls Tryz.prog 18 #[.pointer (some ⟨R.rb, 0, none⟩)] w fun e w' => e = .returned (.tuple #[]) ∧ ROkay base R gb lv w w' (failS s) := by
  unfold failS
  by_cases h0 : s.c 40 = 0
  · rw [if_pos h0]; exact rm_fail_at h hw h0
  · rw [if_neg h0]
    refine (rm_fail_off R.rb (s.c 40) w (h.num 9 (.inr (.inr (.inr (.inr (.inl rfl)))))) h0).mono ?_
    rintro e w' ⟨rfl, rfl⟩
    exact ⟨rfl, ROkay.quiet h hw (Fr.refl _ _)⟩
structure MPair (w0 W : World) (ba bb : Nat) (L : Lay) (lv : Value) (s : MSt) (R : RLay) (gb : Nat) (rv : Value) (t : MSt) : Prop where
  a : At ba W L lv s
  wa : Wf ba L lv
  r : RAt bb W R gb rv t
  wr : RWf bb R gb rv
  fr : Fr (fun _ => False) w0 W
  na : NewM w0 L lv
  nr : ∀ k, k < w0.heap.size → ¬ RFoot R gb rv k
  ar : ∀ k, Foot L lv k → ¬ RFoot R gb rv k
  cr : ¬ RFoot R gb rv L.cb
  ir : ∀ x, L.ia = some x → ¬ RFoot R gb rv x.block
  cl : ∀ x, R.ca = some x → x.block < w0.heap.size
  il : 0 < R.ins.length → ∀ x, R.ia = some x → x.block < w0.heap.size
  code : L.code = R.lay.code
  ins : L.ins = R.ins
  dn : L.dn = R.dn
theorem rfoot_lt {base : Nat} {w : World} {R : RLay} {gb : Nat} {lv : Value} {s : MSt} (h : RAt base w R gb lv s) (hw : RWf base R gb lv) {k : Nat} (hk : RFoot R gb lv k) : k < w.heap.size := by
  obtain ⟨h1, h2, h3, _⟩ := h.blocks hw
  rcases hk with e | e | e | e
  · omega
  · omega
  · omega
  · exact (h.own.lt k e).2
theorem MPair.quiet {w0 W W' : World} {ba bb : Nat} {L : Lay} {lv : Value} {s : MSt} {R : RLay} {gb : Nat} {rv : Value} {t : MSt} (h : MPair w0 W ba bb L lv s R gb rv t) (hf : Fr (fun _ => False) W W') : MPair w0 W' ba bb L lv s R gb rv t :=
  ⟨h.a.grown0 hf, h.wa, h.r.grown0 hf, h.wr, h.fr.trans hf, h.na, h.nr, h.ar, h.cr, h.ir, h.cl, h.il, h.code, h.ins, h.dn⟩
/-- The program's machine was turned. -/
theorem MPair.turn {w0 W W' : World} {ba bb : Nat} {L : Lay} {lv : Value} {s s' : MSt} {R : RLay} {gb : Nat} {rv : Value} {t : MSt} (h : MPair w0 W ba bb L lv s R gb rv t) (hk : Okay ba L lv W W' s') : ∃ lv', MPair w0 W' ba bb L lv' s' R gb rv t := by
  obtain ⟨lv', a', w', r, g⟩ := hk
  have hsz := h.fr.size
  have hra : ∀ k, RFoot R gb rv k → ¬ Foot L lv k := fun k h1 h2 => h.ar k h2 h1
  refine ⟨lv', a', w', h.r.kept r hra (fun x e q => h.na _ (h.cl x e) q) (fun p x e q => h.na _ (h.il p x e) q), h.wr, okay_new h.fr h.na r, new_next h.na h.fr.size g, h.nr, fun k hf hb => ?_, h.cr, h.ir, h.cl, h.il, h.code, h.ins, h.dn⟩
  have hlt := rfoot_lt h.r h.wr hb
  rcases hf with e | e | e
  · exact h.ar k (.inl e) hb
  · exact h.ar k (.inr (.inl e)) hb
  · rcases g k e with q | q
    · exact h.ar k (.inr (.inr q)) hb
    · omega
/-- The document's machine was turned. -/
theorem MPair.turnR {w0 W W' : World} {ba bb : Nat} {L : Lay} {lv : Value} {s : MSt} {R : RLay} {gb : Nat} {rv : Value} {t t' : MSt} (h : MPair w0 W ba bb L lv s R gb rv t) (hk : ROkay bb R gb rv W W' t') : ∃ gb' rv', MPair w0 W' ba bb L lv s R gb' rv' t' := by
  obtain ⟨gb', rv', a', w', r, g⟩ := hk
  have hsz := h.fr.size
  have hnew : ∀ k, RFoot R gb' rv' k → RFoot R gb rv k ∨ W.heap.size ≤ k := by
    rintro k (e | e | e | e)
    · exact .inl (.inl e)
    · exact .inl (.inr (.inl e))
    · rcases g k (.inl e) with (q | q) | q
      · exact .inl (.inr (.inr (.inl q)))
      · exact .inl (.inr (.inr (.inr q)))
      · exact .inr q
    · rcases g k (.inr e) with (q | q) | q
      · exact .inl (.inr (.inr (.inl q)))
      · exact .inl (.inr (.inr (.inr q)))
      · exact .inr q
  obtain ⟨b1, b2, b3, b4⟩ := h.a.lts h.wa
  refine ⟨gb', rv', h.a.kept r (h.ar _ (.inl rfl)) (h.ar _ (.inr (.inl rfl))) (fun k e => h.ar k (.inr (.inr e))) h.cr h.ir, h.wa, a', w', h.fr.trans' r (fun j hj q => (h.nr j hj q).elim), h.na, fun k hk q => ?_, fun k hf q => ?_, fun q => ?_, fun x e q => ?_, h.cl, h.il, h.code, h.ins, h.dn⟩
  · rcases hnew k q with z | z
    · exact h.nr k hk z
    · omega
  · have := foot_lt h.a h.wa hf
    rcases hnew k q with z | z
    · exact h.ar k hf z
    · omega
  · rcases hnew _ q with z | z
    · exact h.cr z
    · omega
  · have := h.a.ilt x e
    rcases hnew _ q with z | z
    · exact h.ir x e z
    · omega
theorem MPair.start {w0 w1 wa wx wb : World} {a0 a2 : Option Addr} {ws ds ins : List Int} {c0 c2 : Nat} {L : Lay} {R : RLay} {gb : Nat} (f0 : Fr (fun _ => False) w0 w1) (A : At w1.heap.size wa L (.slice none 0 0) (initM ds)) (WA : Wf w1.heap.size L (.slice none 0 0)) (Fa : Fr (fun _ => False) w1 wa)
    (s1 : w1.heap.size ≤ L.b) (s2 : w1.heap.size ≤ L.db) (hc : L.code = ws.map decM) (hd : L.dn = ds.length) (hi : L.ins = ins) (fx : Fr (fun _ => False) wa wx) (L0 : ListAt .u32 w0 (.slice a0 ws.length c0) ws) (L2 : ListAt .u32 w0 (.slice a2 ins.length c2) ins)
    (e1 : R.ca = a0) (e2 : R.ia = a2) (e3 : R.ws = ws) (e4 : R.ins = ins) (e5 : R.dn = ds.length) (B : RAt wx.heap.size wb R gb (.slice none 0 0) (initM ds)) (WB : RWf wx.heap.size R gb (.slice none 0 0)) (Fb : Fr (fun _ => False) wx wb)
    (r1 : wx.heap.size ≤ R.rb) (r2 : wx.heap.size ≤ R.db) (r3 : wx.heap.size ≤ gb) :
    MPair w0 wb w1.heap.size wx.heap.size L (.slice none 0 0) (initM ds) R gb (.slice none 0 0) (initM ds) := by
  obtain ⟨a1, a2', a3, a4⟩ := A.lts WA
  have z0 := f0.size
  have z1 := Fa.size
  have z2 := fx.size
  have hge : ∀ k, RFoot R gb (.slice none 0 0) k → wx.heap.size ≤ k := by
    rintro k (e | e | e | e)
    · omega
    · omega
    · omega
    · cases e
  have hwn := WB.wn
  refine ⟨(A.grown0 fx).grown0 Fb, WA, B, WB, ((f0.trans Fa).trans fx).trans Fb, new_start (by omega) (by omega), fun k hk q => ?_, fun k hf q => ?_, fun q => ?_, fun x e q => ?_, fun x e => ?_, fun p x e => ?_, by rw [hc, lay_code, e3], by rw [hi, e4], by rw [hd, e5]⟩
  · have := hge k q; omega
  · have := foot_lt A WA hf
    have := hge k q; omega
  · have := hge _ q; omega
  · have := hge _ q
    have := A.ilt x e; omega
  · rw [e1] at e
    obtain ⟨b, o, e', hc'⟩ := words_of L0 0 (by rw [e3] at hwn; omega)
    rw [e] at e'
    obtain rfl := Option.some.inj e'
    exact World.block_lt_of_cell? w0 _ hc'
  · rw [e2] at e
    obtain ⟨b, o, e', hc'⟩ := words_of L2 0 (by rw [e4] at p; exact p)
    rw [e] at e'
    obtain rfl := Option.some.inj e'
    exact World.block_lt_of_cell? w0 _ hc'
theorem MPair.far {w0 W : World} {ba bb : Nat} {L : Lay} {lv : Value} {s : MSt} {R : RLay} {gb : Nat} {rv : Value} {t : MSt} (h : MPair w0 W ba bb L lv s R gb rv t) {v : Value} {l : List Int} (hl : I64s (fun _ => True) w0 v l) : I64s (RFar R gb rv W) W v l := by
  obtain ⟨a, c, e, h1, h2, h3⟩ := hl
  by_cases h0 : l = []
  · exact ⟨a, c, e, h1, h2, .inl h0⟩
  · obtain ⟨b, o, ea, hp, hc⟩ := h3.resolve_left h0
    have hb := World.block_lt_of_cell? w0 _ (hc 0 (List.length_pos_iff.2 h0))
    have hsz := h.fr.size
    exact ⟨a, c, e, h1, h2, .inr ⟨b, o, ea, ⟨h.nr b hb, by show b < W.heap.size; have : b < w0.heap.size := hb; omega⟩, fun k hk => h.fr.cell (hc k hk) id⟩⟩
theorem MPair.runs {w0 W : World} {ba bb : Nat} {L : Lay} {lv : Value} {s : MSt} {R : RLay} {gb : Nat} {rv : Value} {t : MSt} (h : MPair w0 W ba bb L lv s R gb rv t) (n : Int) (l : List Int) (x : MSt) : runE L n l x = runE R.lay n l x :=
  runE_lay h.code h.ins h.dn n l x
theorem MPair.steps {w0 W : World} {ba bb : Nat} {L : Lay} {lv : Value} {s : MSt} {R : RLay} {gb : Nat} {rv : Value} {t : MSt} (h : MPair w0 W ba bb L lv s R gb rv t) (x : MSt) : stepM L x = stepM R.lay x := by
  unfold stepM; rw [adv_lay h.code h.ins h.dn x]
theorem box_cells {w W : World} {v0 v1 v2 v3 v4 : Value} (h : Fr (fun _ => False) (w.alloc (.cells #[v0, v1, v2, v3, v4] 26)) W) :
    W.cell? ⟨w.heap.size, 0, none⟩ = some v0 ∧ W.cell? ⟨w.heap.size, 1, none⟩ = some v1 ∧ W.cell? ⟨w.heap.size, 2, none⟩ = some v2 ∧ W.cell? ⟨w.heap.size, 3, none⟩ = some v3 ∧ W.cell? ⟨w.heap.size, 4, none⟩ = some v4 :=
  ⟨h.cell (row_cell w #[v0, v1, v2, v3, v4] 26 0 v0 rfl) id, h.cell (row_cell w #[v0, v1, v2, v3, v4] 26 1 v1 rfl) id, h.cell (row_cell w #[v0, v1, v2, v3, v4] 26 2 v2 rfl) id, h.cell (row_cell w #[v0, v1, v2, v3, v4] 26 3 v3 rfl) id, h.cell (row_cell w #[v0, v1, v2, v3, v4] 26 4 v4 rfl) id⟩
set_option maxRecDepth 100000 in
set_option maxHeartbeats 8000000 in
theorem runs_few (a0 a1 a2 a3 : Option Addr) (n m i f c0 c1 c2 c3 : Nat) (N : Int) (w : World) (h : fewB n m i f N = false) :
    Calls Tryz.prog 3 #[.agg #[.slice a0 n c0, .slice a1 m c1, .slice a2 i c2, .slice a3 f c3, .int .i64 N]] w fun e w' => e = .returned (.bool true) ∧ Fr (fun _ => False) w w' := by
  obtain ⟨wB, hwB⟩ : ∃ wB : World, wB = w.alloc (.cells #[.slice a0 n c0, .slice a1 m c1, .slice a2 i c2, .slice a3 f c3, .int .i64 N] 26) := ⟨_, rfl⟩
  have hF : Fr (fun _ => False) w wB := by rw [hwB]; exact Fr.of_by0 (World.grownBy_alloc _ _ _)
  have HF := Lib.hid hF
  have HX : Hid (∀ W, Fr (fun _ => False) wB W → W.cell? ⟨w.heap.size, 0, none⟩ = some (.slice a0 n c0) ∧ W.cell? ⟨w.heap.size, 1, none⟩ = some (.slice a1 m c1) ∧ W.cell? ⟨w.heap.size, 2, none⟩ = some (.slice a2 i c2) ∧ W.cell? ⟨w.heap.size, 3, none⟩ = some (.slice a3 f c3) ∧ W.cell? ⟨w.heap.size, 4, none⟩ = some (.int .i64 N)) := Lib.hid (fun W hW => box_cells (by rw [← hwB]; exact hW))
  obtain ⟨x0, x1, x2, x3, x4⟩ := HX.out wB (Fr.refl _ _)
  clear hF
  have H18 := Lib.hid (dv18 a0 a1 a2 a3 n m i f c0 c1 c2 c3 N wB)
  rw [h] at H18
  clear h
  go_enter Tryz.func3, Tryz.ntmps3
  go_wp2_with (first
    | (go_at_call 6; (try rw [← hwB]); (with_reducible refine H18.out.mono ?_); rintro e w1 ⟨rfl, hg⟩; have H1 := Lib.hid hg; clear hg)
    | (go_at_call 7; (with_reducible refine (dv19 _).mono ?_); rintro e w2 ⟨rfl, hg⟩; have H2 := Lib.hid hg; clear hg))
  go_ret
  exact ⟨rfl, HF.out.trans (H1.out.trans H2.out)⟩
set_option maxRecDepth 100000 in
set_option maxHeartbeats 8000000 in
theorem runs_no (a0 a1 a2 a3 : Option Addr) (n m i f c0 c1 c2 c3 : Nat) (N : Int) (w : World) (h : fewB n m i f N = true) (hmay : mayB n m = false) :
    Calls Tryz.prog 3 #[.agg #[.slice a0 n c0, .slice a1 m c1, .slice a2 i c2, .slice a3 f c3, .int .i64 N]] w fun e w' => e = .returned (.bool true) ∧ Fr (fun _ => False) w w' := by
  obtain ⟨wB, hwB⟩ : ∃ wB : World, wB = w.alloc (.cells #[.slice a0 n c0, .slice a1 m c1, .slice a2 i c2, .slice a3 f c3, .int .i64 N] 26) := ⟨_, rfl⟩
  have hF : Fr (fun _ => False) w wB := by rw [hwB]; exact Fr.of_by0 (World.grownBy_alloc _ _ _)
  have HF := Lib.hid hF
  have HX : Hid (∀ W, Fr (fun _ => False) wB W → W.cell? ⟨w.heap.size, 0, none⟩ = some (.slice a0 n c0) ∧ W.cell? ⟨w.heap.size, 1, none⟩ = some (.slice a1 m c1) ∧ W.cell? ⟨w.heap.size, 2, none⟩ = some (.slice a2 i c2) ∧ W.cell? ⟨w.heap.size, 3, none⟩ = some (.slice a3 f c3) ∧ W.cell? ⟨w.heap.size, 4, none⟩ = some (.int .i64 N)) := Lib.hid (fun W hW => box_cells (by rw [← hwB]; exact hW))
  obtain ⟨x0, x1, x2, x3, x4⟩ := HX.out wB (Fr.refl _ _)
  clear hF
  have H18 := Lib.hid (dv18 a0 a1 a2 a3 n m i f c0 c1 c2 c3 N wB)
  rw [h] at H18
  have hfew := of_decide_eq_true h
  have H20 := Lib.hid (fun W => dv20_no a0 n c0 a1 m c1 (.slice a2 i c2) (by omega) (by omega) hmay W)
  have HM : Hid (∀ W, Calls Tryz.prog 9 #[.int .i64 n, .int .i64 m] W fun e w' => e = .returned (.int .i64 1) ∧ W = w') := Lib.hid (fun W => by have := rm_may n m (by omega) (by omega) W; rw [hmay] at this; exact this)
  obtain ⟨B, hB⟩ : ∃ B, w.heap.size = B := ⟨_, rfl⟩
  rw [hB] at HX x0 x1 x2 x3 x4
  clear h hmay hfew
  go_enter Tryz.func3, Tryz.ntmps3
  go_wp2_with (first
    | (go_at_call 6; (try rw [← hwB]); (with_reducible refine H18.out.mono ?_); rintro e w1 ⟨rfl, hg⟩; have H1 := Lib.hid hg; clear x0 x1 x2 x3 x4; obtain ⟨x0, x1, x2, x3, x4⟩ := HX.out _ hg; clear hg)
    | (go_at_call 8; (with_reducible refine (H20.out _).mono ?_); rintro e w2 ⟨rfl, rfl⟩)
    | (go_at_call 9; (with_reducible refine (HM.out _).mono ?_); rintro e w2 ⟨rfl, rfl⟩)
    | (go_at_call 7; (with_reducible refine (dv19 _).mono ?_); rintro e w2 ⟨rfl, hg⟩; have H2 := Lib.hid (H1.out.trans hg); clear x0 x1 x2 x3 x4; obtain ⟨x0, x1, x2, x3, x4⟩ := HX.out _ H2.out; clear hg)
    | (go_at_call 10; (with_reducible refine (step_nil _).mono ?_); rintro e w2 ⟨rfl, rfl⟩)
    | (go_at_call 11; (with_reducible refine (run_nil _ _ _).mono ?_); rintro e w2 ⟨rfl, rfl⟩)
    | (go_at_call 12; (with_reducible refine (log_nil _).mono ?_); rintro e w2 ⟨rfl, rfl⟩)
    | (go_at_call 13; (with_reducible refine (steps_nil _).mono ?_); rintro e w2 ⟨rfl, rfl⟩))
  go_ret
  exact ⟨rfl, HF.out.trans H2.out⟩
end Go.Proofs.YthhahfggbjegmaaGreat
