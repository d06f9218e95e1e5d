/-
  Tables of types (layer 8): the walk of the law on how types lie.
-/
import Derived.Test.YtlhkhgkgjdfcgaaQKindVa
import Derived.LoopTactic
import Derived.Deep.RegionHeld3
import Derived.Outline
namespace Go.Proofs.Ytlhkhgkgjdfcgaa
open Go.RowKit
set_option linter.unusedVariables false
set_option linter.unusedSimpArgs false
theorem keepF {w W : World} {g : Nat} {x1 x2 : Value} (h1 : w.cell? ⟨g, 1, none⟩ = some x1) (h2 : w.cell? ⟨g, 2, none⟩ = some x2) (h : Fr (fun _ => False) w W) : Fr (fun _ => False) w W ∧ W.cell? ⟨g, 1, none⟩ = some x1 ∧ W.cell? ⟨g, 2, none⟩ = some x2 := ⟨h, h.cell h1 id, h.cell h2 id⟩
/-- A table of this call's own, whose types lie as the document says. -/
def LieTab (w W : World) (tb : Nat) : Prop := ∃ es fss, (tabFace w tb es fss).P W ∧ Lie es fss
theorem LieTab.fr {w W : World} {tb : Nat} (h : LieTab w W tb) : Fr (fun _ => False) w W := by
  obtain ⟨es, fss, hp, _⟩ := h
  exact hp.fr
theorem done_lietab {w0 W w3 : World} {tb b : Nat} {y : ActV} {fs : List Fld} (h : LieTab w0 W tb) (hf3 : Fr (fun _ => False) W w3) (hfs : FldAt w0 y.fa y.fn fs) (hfew : fs.length ≤ 1000) (hnm : ∀ f ∈ fs, f.name.size ≤ maxLen) (hr : RAt w3 (some ⟨b, 0, none⟩) 3 begin3) (hb : b < w3.heap.size) (hW : W.heap.size ≤ b) :
    Calls Try.prog 12 #[.agg #[.int .i64 y.kind, .int .i64 y.n, .int .i64 y.long, .string y.name, .slice y.fa y.fn y.fc], .pointer (some ⟨tb, 0, none⟩), .slice (some ⟨b, 0, none⟩) 3 3] w3 fun r w' => (∃ A B N E a n c, r = .returned (.tuple #[.int .i64 A, .int .i64 B, .agg #[.int .i64 N, .slice a n c, .int .i64 E]])) ∧ LieTab w0 w' tb ∧ Fr (fun _ => False) w0 w' := by
  obtain ⟨es, fss, hp, hl⟩ := h
  have h3 := (tabFace w0 tb es fss).quiet hp hf3
  have hfr : Fr (fun _ => False) w0 w3 := (LieTab.fr ⟨es, fss, h3, hl⟩)
  refine (done_lie h3 hl y fs (hfs.quiet hfr) (fun g o e hn => ?_) hfew hnm hr hb ((tabFace w0 tb es fss).offq hp hf3 ((tabFace w0 tb es fss).new W b hp hW))).mono fun r w' hr => ?_
  · have hlt := fld_lt hfs g o e hn
    exact ⟨(tabFace w0 tb es fss).old w3 g h3 hlt, Nat.lt_of_lt_of_le hlt hfr.size⟩
  · obtain ⟨A, B, N, E, a, n, c, es', fss', e, hp', hl'⟩ := hr
    exact ⟨⟨A, B, N, E, a, n, c, e⟩, ⟨es', fss', hp', hl'⟩, hp'.fr⟩
set_option maxRecDepth 100000 in
set_option maxHeartbeats 4000000 in
theorem lies_walk (w : World) (a : Option Addr) (n c : Nat) (xs : List ActV) (fsl : Nat → List Fld) (h : ActsAt w a n xs fsl) (hn : (n : Int) ≤ 9223372036854775807)
    (hsz : ∀ k, k < xs.length → (xs.getD k act0).name.size ≤ maxLen ∧ (xs.getD k act0).fn ≤ maxLen ∧ ∀ i, i < (fsl k).length → ((fsl k).getD i fld0).name.size ≤ maxLen) :
    Calls Try.prog 5 #[.slice a n c] w fun r w' => r = .returned (.bool true) ∧ Fr (fun _ => False) w w' := by
  have HFEW := Lib.hid (few_of (c := c) h hn hsz)
  have HC := Lib.hid h.2
  have HN := Lib.hid h.1
  have HNM : Hid (∀ k, k < xs.length → ∀ f ∈ fsl k, f.name.size ≤ maxLen) := Lib.hid (fun k hk f hf => by
    obtain ⟨i, hi, rfl⟩ := List.mem_iff_getElem.1 hf
    have := (hsz k hk).2.2 i hi
    rw [List.getD_eq_getElem?_getD, List.getElem?_eq_getElem hi] at this
    exact this)
  have HNEW : Hid (Calls Try.prog 10 #[] w fun r w' => r = .returned (.pointer (some ⟨w.heap.size, 0, none⟩)) ∧ LieTab w w' w.heap.size) := Lib.hid ((new_tab w).mono fun r w' hr => ⟨hr.1, [], fun _ => [], hr.2, fun i hi => absurd hi (Nat.not_lt_zero _)⟩)
  clear h hsz
  go_enter Try.func5, Try.ntmps5
  go_wp2_with (first
    | (go_at_call 8; (with_reducible refine HFEW.out.mono ?_); rintro r w2 ⟨b, rfl, hb, rfl⟩; have HBF := Lib.hid hb; clear hb; cases b))
  · go_wp2_with (go_at_call 9; (with_reducible refine (awake_of _).mono ?_); rintro r w3 ⟨rfl, hfr⟩; have HV := Lib.hid hfr; clear hfr)
    go_ret
    exact ⟨rfl, HV.out⟩
  · have hP : FewP xs fsl := by first | exact HBF.out rfl | exact HBF.out trivial
    have HP := Lib.hid hP
    have hn30 : n ≤ 30 := by have := hP.1; have := HN.out; omega
    clear hP HBF hn
    go_wp2_with (go_at_call 10; (with_reducible refine HNEW.out.mono ?_); rintro r w1 ⟨rfl, ht⟩; have HT1 := Lib.hid ht; clear ht)
    go_loopw [4] (fun q wr => ∃ k : Nat, q = .int .i64 k ∧ k ≤ n ∧ Hid (LieTab w wr w.heap.size)) (fun q _ => n - (intOf q).toNat)
    case atStart => exact ⟨0, rfl, Nat.zero_le _, HT1⟩
    case round =>
      obtain ⟨k, rfl, hk, HW⟩ := hrel
      by_cases hlt : k < n
      · obtain ⟨g, o, rfl, hcell, hfl⟩ := HC.out k (by have := HN.out; omega)
        have hfn : (fsl k).length ≤ 1000 := by have := (HP.out.2 k (by have := HN.out; omega)).2.1; have := hfl.1; omega
        have hnm := HNM.out k (by have := HN.out; omega)
        obtain ⟨y, hy⟩ : ∃ y, xs.getD k act0 = y := ⟨_, rfl⟩
        rw [hy] at hcell hfl
        have hc : ∀ j, j < 5 → w.cell? ⟨g, o + k * 5 + j, none⟩ = y.vals[j]? := fun j hj => by rw [Nat.add_assoc]; exact hcell j hj
        have hfr0 := HW.out.fr
        have HD : Hid (∀ (w3 : World) (b : Nat), Fr (fun _ => False) wr w3 → RAt w3 (some ⟨b, 0, none⟩) 3 begin3 → b < w3.heap.size → wr.heap.size ≤ b → Calls Try.prog 12 #[.agg #[.int .i64 y.kind, .int .i64 y.n, .int .i64 y.long, .string y.name, .slice y.fa y.fn y.fc], .pointer (some ⟨w.heap.size, 0, none⟩), .slice (some ⟨b, 0, none⟩) 3 3] w3 fun r w' => (∃ A B N E a n c, r = .returned (.tuple #[.int .i64 A, .int .i64 B, .agg #[.int .i64 N, .slice a n c, .int .i64 E]])) ∧ LieTab w w' w.heap.size ∧ Fr (fun _ => False) w w') :=
          Lib.hid (fun w3 b f3 hr hb hW => done_lietab HW.out f3 hfl hfn hnm hr hb hW)
        have t0 : (0 : Int) ≤ k := by omega
        have t1 : (k : Int) < n := by omega
        clear hcell hfl hy hfn hnm
        go_wp2_with fail
        go_region_held3 (fun w' => Fr (fun _ => False) w w' ∧ w'.cell? ⟨g, o + k * 5, none⟩ = some (.int .i64 y.kind) ∧ w'.cell? ⟨g, o + k * 5 + 1, none⟩ = some (.int .i64 y.n) ∧ w'.cell? ⟨g, o + k * 5 + 2, none⟩ = some (.int .i64 y.long) ∧ w'.cell? ⟨g, o + k * 5 + 3, none⟩ = some (.string y.name) ∧ w'.cell? ⟨g, o + k * 5 + 4, none⟩ = some (.slice y.fa y.fn y.fc))
          (first | exact keepO hc (fr_drew hfr0) | assumption | exact keepO hc (by assumption))
          (first
            | (go_at_call 11; refine (begin_of _).mono ?_; rintro r w3 ⟨rfl, hf, hlt3, hrat⟩; have hw3 : Fr (fun _ => False) w w3 := hfr0.trans (undrew hf))
            | (go_at_call 12; refine (HD.out _ _ (undrew hf) hrat hlt3 (Nat.le_refl _)).mono ?_; rintro r w4 ⟨⟨A, B, N, E, a4, n4, c4, rfl⟩, ht4, hw4⟩))
        all_goals
          have HT4 := Lib.hid ht4
          clear ht4 hw4 hrat hlt3 hw3 hf
          go_wp2
          go_roundw
          case rel => exact ⟨k + 1, by go_num, by omega, HT4⟩
          case measure => simp [intOf]; omega
      · obtain rfl : n = k := by omega
        obtain ⟨es, fss, hp, hlie⟩ := HW.out
        have HLIE := Lib.hid hlie
        have HOK := Lib.hid hp.ok
        obtain ⟨L, hL⟩ : ∃ L : Nat, es.length = L := ⟨_, rfl⟩
        have hL397 : L ≤ 397 := by obtain ⟨v, hv, _⟩ := hp.ex; have := hv.few; omega
        have HCNT : Hid (∀ W, (tabFace w w.heap.size es fss).P W → Calls Try.prog 20 #[.pointer (some ⟨w.heap.size, 0, none⟩)] W fun r w' => r = .returned (.int .i64 (3 + L)) ∧ W = w') := Lib.hid (fun W hW => by have := count_tab hW; rw [hL] at this; exact this)
        have HQ : Hid (∀ W W', (tabFace w w.heap.size es fss).P W → Fr (fun _ => False) W W' → (tabFace w w.heap.size es fss).P W' ∧ Fr (fun _ => False) w W') := Lib.hid (fun W W' hW hf => ⟨(tabFace w w.heap.size es fss).quiet hW hf, ((tabFace w w.heap.size es fss).quiet hW hf).fr⟩)
        have HP0 := Lib.hid hp
        have HL := Lib.hid hL
        clear hp hlie hL
        go_wp2
        go_loopw [5] (fun q wl => ∃ i : Nat, q = .int .i64 i ∧ i ≤ 3 + L ∧ Hid ((tabFace w w.heap.size es fss).P wl)) (fun q _ => 3 + L - (intOf q).toNat)
        case atStart => exact ⟨0, rfl, Nat.zero_le _, HP0⟩
        case round =>
          obtain ⟨i, rfl, hi, HPi⟩ := hrel
          by_cases hli : i < 3 + L
          · have h0 : entE es (i : Int) = 0 := by unfold entE; rw [if_neg (by have := HL.out; omega)]
            obtain ⟨l1, l2, l3, l4⟩ := lie_of HPi.out HLIE.out h0
            have HTY := Lib.hid (type_tab HPi.out HLIE.out h0)
            have hok := entF_ok HOK.out (i : Int)
            obtain ⟨e, he⟩ : ∃ e, entF es (i : Int) = e := ⟨_, rfl⟩
            obtain ⟨fs, hfs⟩ : ∃ fs, fsOf fss (i : Int) = fs := ⟨_, rfl⟩
            have HSZ : Hid (∀ W, (tabFace w w.heap.size es fss).P W → Calls Try.prog 14 #[.pointer (some ⟨w.heap.size, 0, none⟩), .int .i64 i] W fun r w' => r = .returned (.int .i64 e.size) ∧ Fr (fun _ => False) W w') := Lib.hid (fun W hW => by rw [← he]; exact size_tab hW i)
            have HALN : Hid (∀ W, (tabFace w w.heap.size es fss).P W → Calls Try.prog 16 #[.pointer (some ⟨w.heap.size, 0, none⟩), .int .i64 i] W fun r w' => r = .returned (.int .i64 e.align) ∧ Fr (fun _ => False) W w') := Lib.hid (fun W hW => by rw [← he]; exact align_tab hW i)
            rw [he] at l1 l2 hok HTY
            rw [hfs] at l1 l2 l4 HTY
            obtain ⟨⟨s0, s1⟩, ⟨a0, a1⟩, sa⟩ := hok
            have HLE := Lib.hid l1
            have HLEN := Lib.hid l2
            have hdiv := l1.div
            have t0 : (0 : Int) ≤ i := by omega
            have t1 : (i : Int) < 3 + L := by omega
            have t2 : (i : Int) < 500 := by omega
            have d1 : decide (e.size < 0) = false := decide_eq_false (by omega)
            have d2 : decide (32768 < e.size) = false := decide_eq_false (by omega)
            have d3 : decide (e.align < 0) = false := decide_eq_false (by omega)
            have hfn : e.fn ≤ 1000 := by omega
            have hcase : (decide (0 < e.size) = false) ∨ (decide (0 < e.size) = true ∧ decide (e.align < 1) = false ∧ (e.align == 0) = false ∧ e.size.tmod e.align = 0 ∧ 1 ≤ e.align ∧ e.align ≠ 0) := by
              by_cases hz : e.size = 0
              · exact .inl (decide_eq_false (by omega))
              · exact .inr ⟨decide_eq_true (by omega), decide_eq_false (by have := sa hz; omega), by rw [beq_eq_false_iff_ne]; have := sa hz; omega, Int.tmod_eq_zero_of_dvd (Int.dvd_of_emod_eq_zero (hdiv hz)), sa hz, by have := sa hz; omega⟩
            clear l1 l2 l3 l4 he hfs h0 hdiv sa
            rcases hcase with c1 | ⟨c1, c2, c3, c4, c5, c6⟩
            all_goals
              go_wp2_with (first
                | (go_at_call 20; (with_reducible refine (HCNT.out _ HPi.out).mono ?_); rintro r vc ⟨rfl, rfl⟩)
                | (go_at_call 13; (with_reducible refine (HTY.out).mono ?_); rintro r w5 ⟨g2, cc2, rfl, hf5, hl5⟩; have HP5 := Lib.hid (HQ.out _ _ HPi.out (fr_al hf5 (.cells #[.int .i64 e.kind, .int .i64 e.elem, .int .i64 e.len, .string e.name, .slice g2 e.fn cc2] 38))); have HC5 := Lib.hid (fcell w5 #[.int .i64 e.kind, .int .i64 e.elem, .int .i64 e.len, .string e.name, .slice g2 e.fn cc2] 38 4 _ rfl); have HL5 := Lib.hid (hl5.quiet (fr_al (Fr.refl _ _) (.cells #[.int .i64 e.kind, .int .i64 e.elem, .int .i64 e.len, .string e.name, .slice g2 e.fn cc2] 38))); clear hf5 hl5)
                | (go_at_call 14; (with_reducible refine (HSZ.out _ HP5.out.1).mono ?_); rintro r w7 ⟨rfl, hf7⟩; have HP7 := Lib.hid (HQ.out _ _ HP5.out.1 hf7); have HF7 := Lib.hid hf7; clear hf7)
                | (go_at_call 16; (with_reducible refine (HALN.out _ HP7.out.1).mono ?_); rintro r w8 ⟨rfl, hf8⟩; have HP8 := Lib.hid (HQ.out _ _ HP7.out.1 hf8); have HF8 := Lib.hid (HF7.out.trans hf8); clear hf8))
              have HC8 := Lib.hid (HF8.out.cell HC5.out id)
              have HL8 := Lib.hid (HL5.out.quiet HF8.out)
              go_loopw [10, 11] (fun ev q wl => ∃ k : Nat, q = .int .i64 k ∧ k ≤ e.fn ∧ ev = .int .i64 (endAt es fs k) ∧ Hid ((tabFace w w.heap.size es fss).P wl ∧ Fr (fun _ => False) w8 wl)) (fun _ q _ => e.fn - (intOf q).toNat)
              case atStart => exact ⟨0, rfl, Nat.zero_le _, rfl, Lib.hid ⟨HP8.out.1, Fr.refl _ _⟩⟩
              case round =>
                obtain ⟨k, rfl, hk, rfl, HW2⟩ := hrel
                have c4c := HW2.out.2.cell HC8.out id
                by_cases hlk : k < e.fn
                · obtain ⟨g, o, hg2, hcell⟩ := (HL8.out.quiet HW2.out.2).2 k (by have := HLEN.out; omega)
                  obtain ⟨f, hf⟩ : ∃ f, fs.getD k fld0 = f := ⟨_, rfl⟩
                  rw [hf] at hcell
                  obtain ⟨⟨e0, e1, e2⟩, ⟨b0, b1⟩, r0, r1, ⟨z0, z1⟩, hnext⟩ := lie_field HLE.out HOK.out s1 (by have := HLEN.out; omega : k < fs.length) hf
                  have HNX := Lib.hid hnext
                  have q0 : wr.cell? ⟨g, o + k * 3, none⟩ = some (.string f.name) := hcell 0 (by decide)
                  have q1 : wr.cell? ⟨g, o + k * 3 + 1, none⟩ = some (.int .i64 f.type) := hcell 1 (by decide)
                  have q2 : wr.cell? ⟨g, o + k * 3 + 2, none⟩ = some (.int .i64 f.off) := hcell 2 (by decide)
                  obtain ⟨B, hB⟩ : ∃ B, (entF es f.type).align = B := ⟨_, rfl⟩
                  obtain ⟨S, hS⟩ : ∃ S, (entF es f.type).size = S := ⟨_, rfl⟩
                  have HAL2 : Hid (∀ W, Fr (fun _ => False) wr W → Calls Try.prog 16 #[.pointer (some ⟨w.heap.size, 0, none⟩), .int .i64 f.type] W fun r w' => r = .returned (.int .i64 B) ∧ Fr (fun _ => False) W w') := Lib.hid (fun W hW => by rw [← hB]; exact align_tab (HQ.out _ _ HW2.out.1 hW).1 f.type)
                  have HSZ2 : Hid (∀ w9, Fr (fun _ => False) wr w9 → ∀ W, Fr (fun _ => False) w9 W → Calls Try.prog 14 #[.pointer (some ⟨w.heap.size, 0, none⟩), .int .i64 f.type] W fun r w' => r = .returned (.int .i64 S) ∧ Fr (fun _ => False) w9 w') := Lib.hid (fun w9 h9 W hW => by rw [← hS]; exact (size_tab (HQ.out _ _ HW2.out.1 (h9.trans hW)).1 f.type).mono fun r w' hr => ⟨hr.1, hW.trans hr.2⟩)
                  rw [hB] at b0 b1 r0 r1
                  rw [hS] at z0 z1 HNX
                  obtain ⟨E, hE⟩ : ∃ E, endAt es fs k = E := ⟨_, rfl⟩
                  rw [hE] at e0 e1 ⊢
                  have t3 : (0 : Int) ≤ k := by omega
                  have t4 : (k : Int) < e.fn := by omega
                  have m1 : decide (f.off < E) = false := decide_eq_false (by omega)
                  have m2 : decide (B < 1) = false := decide_eq_false (by omega)
                  have m3 : (B == 0) = false := by rw [beq_eq_false_iff_ne]; omega
                  clear hcell hf hnext hB hS hE
                  subst hg2
                  go_wp2_with (go_at_call 16; (with_reducible refine (HAL2.out _ (fr_al (Fr.refl _ _) _)).mono ?_); rintro r w9 ⟨rfl, hf9⟩; have HF9 := Lib.hid ((fr_al (Fr.refl (fun _ => False) wr) (.cells #[.string f.name, .int .i64 f.type, .int .i64 f.off] 53)).trans hf9); have y1 := hf9.cell (fcell wr #[.string f.name, .int .i64 f.type, .int .i64 f.off] 53 1 _ rfl) id; have y2 := hf9.cell (fcell wr #[.string f.name, .int .i64 f.type, .int .i64 f.off] 53 2 _ rfl) id; clear hf9)
                  go_region_held3 (fun w' => Fr (fun _ => False) w9 w' ∧ w'.cell? ⟨wr.heap.size, 1, none⟩ = some (.int .i64 f.type) ∧ w'.cell? ⟨wr.heap.size, 2, none⟩ = some (.int .i64 f.off))
                    (first | exact keepF y1 y2 (fr_drew (Fr.refl _ _)) | assumption | exact keepF y1 y2 (by assumption))
                    (first
                      | (go_at_call 14; refine (HSZ2.out _ HF9.out _ (fr_drew (Fr.refl _ _))).mono ?_; rintro r w10 ⟨rfl, hf10⟩))
                  all_goals
                    have HF10 := Lib.hid (HF9.out.trans hf10)
                    clear hf10 y1 y2 c4c
                    go_wp2
                    go_roundw
                    case rel => exact ⟨k + 1, by go_num, by omega, (by rw [HNX.out]; congr 1; rw [IntKind.wrap_i64]; omega), Lib.hid ⟨(HQ.out _ _ HW2.out.1 HF10.out).1, HW2.out.2.trans HF10.out⟩⟩
                    case measure => simp [intOf]; omega
                · obtain rfl : e.fn = k := by omega
                  have hfin : decide (e.size < endAt es fs e.fn) = false := decide_eq_false (by have := HLE.out.fin; rw [HLEN.out]; omega)
                  generalize endAt es fs e.fn = E at *
                  go_wp2
                  go_roundw
                  case rel => exact ⟨i + 1, by go_num, by omega, Lib.hid HW2.out.1⟩
                  case measure => simp [intOf]; omega
          · obtain rfl : i = 3 + L := by omega
            go_wp2_with (first
              | (go_at_call 20; (with_reducible refine (HCNT.out _ HPi.out).mono ?_); rintro r vc ⟨rfl, rfl⟩)
              | (go_at_call 9; (with_reducible refine (awake_of _).mono ?_); rintro r v5 ⟨rfl, hfr⟩; have HV := Lib.hid (HQ.out _ _ HPi.out hfr).2; clear hfr))
            go_ret
            exact ⟨rfl, HV.out⟩
end Go.Proofs.Ytlhkhgkgjdfcgaa
