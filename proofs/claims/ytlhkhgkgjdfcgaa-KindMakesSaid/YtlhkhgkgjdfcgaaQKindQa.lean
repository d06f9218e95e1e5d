/-
  Tables of types (layer 8): the acts of a list, one by one.
-/
import Derived.Test.YtlhkhgkgjdfcgaaQKindPa
import Derived.LoopTactic
import Derived.Deep.RegionHeld3
import Derived.Outline
namespace Go.Proofs.Ytlhkhgkgjdfcgaa
open Go.RowKit
set_option linter.unusedVariables false
set_option linter.unusedSimpArgs false
/-- Five cells of an act, wherever it lies. -/
theorem keepO {w W : World} {g i : Nat} {y : ActV} (hc : ∀ j, j < 5 → w.cell? ⟨g, i + j, none⟩ = y.vals[j]?) (h : Fr (fun _ => False) w W) :
    Fr (fun _ => False) w W ∧ W.cell? ⟨g, i, none⟩ = some (.int .i64 y.kind) ∧ W.cell? ⟨g, i + 1, none⟩ = some (.int .i64 y.n) ∧ W.cell? ⟨g, i + 2, none⟩ = some (.int .i64 y.long) ∧ W.cell? ⟨g, i + 3, none⟩ = some (.string y.name) ∧ W.cell? ⟨g, i + 4, none⟩ = some (.slice y.fa y.fn y.fc) :=
  ⟨h, h.cell (hc 0 (by decide)) id, h.cell (hc 1 (by decide)) id, h.cell (hc 2 (by decide)) id, h.cell (hc 3 (by decide)) id, h.cell (hc 4 (by decide)) id⟩
/-- A table of this call's own, whatever it holds. -/
def SomeTab (w W : World) (tb : Nat) : Prop := ∃ es fss, (tabFace w tb es fss).P W
theorem SomeTab.fr {w W : World} {tb : Nat} (h : SomeTab w W tb) : Fr (fun _ => False) w W := by
  obtain ⟨es, fss, hp⟩ := h
  exact hp.fr
theorem done_some {w0 W w3 : World} {tb b : Nat} {y : ActV} {fs : List Fld} (h : SomeTab w0 W tb) (hf3 : Fr (fun _ => False) W w3) (hfs : FldAt w0 y.fa y.fn fs) (hfew : fs.length ≤ 1000) (hnm : ∀ f ∈ fs, f.name.size ≤ maxLen) (hr : RAt w3 (some ⟨b, 0, none⟩) 3 begin3) (hb : b < w3.heap.size) (hW : W.heap.size ≤ b) :
    Calls Try.prog 12 #[.agg #[.int .i64 y.kind, .int .i64 y.n, .int .i64 y.long, .string y.name, .slice y.fa y.fn y.fc], .pointer (some ⟨tb, 0, none⟩), .slice (some ⟨b, 0, none⟩) 3 3] w3 fun r w' => (∃ A B N E a n c, r = .returned (.tuple #[.int .i64 A, .int .i64 B, .agg #[.int .i64 N, .slice a n c, .int .i64 E]])) ∧ SomeTab w0 w' tb ∧ Fr (fun _ => False) w0 w' := by
  obtain ⟨es, fss, hp⟩ := h
  have h3 := (tabFace w0 tb es fss).quiet hp hf3
  have hfr : Fr (fun _ => False) w0 w3 := (SomeTab.fr ⟨es, fss, h3⟩)
  refine (done_tab h3 y fs (hfs.quiet hfr) (fun g o e hn => ?_) hfew hnm hr hb ((tabFace w0 tb es fss).offq hp hf3 ((tabFace w0 tb es fss).new W b hp hW))).mono fun r w' hr => ?_
  · have hlt := fld_lt hfs g o e hn
    exact ⟨(tabFace w0 tb es fss).old w3 g h3 hlt, Nat.lt_of_lt_of_le hlt hfr.size⟩
  · obtain ⟨A, B, N, E, a, n, c, es', fss', e, hp', _⟩ := hr
    exact ⟨⟨A, B, N, E, a, n, c, e⟩, ⟨es', fss', hp'⟩, hp'.fr⟩
set_option maxRecDepth 100000 in
set_option maxHeartbeats 4000000 in
theorem once_walk (w : World) (a : Option Addr) (n c : Nat) (xs : List ActV) (fsl : Nat → List Fld) (h : ActsAt w a n xs fsl) (hn : (n : Int) ≤ 9223372036854775807)
    (hsz : ∀ k, k < xs.length → (xs.getD k act0).name.size ≤ maxLen ∧ (xs.getD k act0).fn ≤ maxLen ∧ ∀ i, i < (fsl k).length → ((fsl k).getD i fld0).name.size ≤ maxLen) (m long : Int) :
    Calls Try.prog 6 #[.slice a n c, .int .i64 m, .int .i64 long] w fun r w' => r = .returned (.bool true) ∧ Fr (fun _ => False) w w' := by
  have HFEW := Lib.hid (few_of (c := c) h hn hsz)
  have HC := Lib.hid h.2
  have HN := Lib.hid h.1
  have HNM : Hid (∀ k, k < xs.length → ∀ f ∈ fsl k, f.name.size ≤ maxLen) := Lib.hid (fun k hk f hf => by
    obtain ⟨i, hi, rfl⟩ := List.mem_iff_getElem.1 hf
    have := (hsz k hk).2.2 i hi
    rw [List.getD_eq_getElem?_getD, List.getElem?_eq_getElem hi] at this
    exact this)
  have HNEW : Hid (Calls Try.prog 10 #[] w fun r w' => r = .returned (.pointer (some ⟨w.heap.size, 0, none⟩)) ∧ SomeTab w w' w.heap.size) := Lib.hid ((new_tab w).mono fun r w' hr => ⟨hr.1, [], fun _ => [], hr.2⟩)
  clear h hsz
  go_enter Try.func6, Try.ntmps6
  go_wp2_with (first
    | (go_at_call 8; (with_reducible refine HFEW.out.mono ?_); rintro r w2 ⟨b, rfl, hb, rfl⟩; have HBF := Lib.hid hb; clear hb; cases b))
  · go_wp2_with (go_at_call 9; (with_reducible refine (awake_of _).mono ?_); rintro r w3 ⟨rfl, hfr⟩; have HV := Lib.hid hfr; clear hfr)
    go_ret
    exact ⟨rfl, HV.out⟩
  · have hP : FewP xs fsl := by first | exact HBF.out rfl | exact HBF.out trivial
    have HP := Lib.hid hP
    have hn30 : n ≤ 30 := by have := hP.1; have := HN.out; omega
    clear hP HBF hn
    go_wp2_with (go_at_call 10; (with_reducible refine HNEW.out.mono ?_); rintro r w1 ⟨rfl, ht⟩; have HT1 := Lib.hid ht; clear ht)
    go_loopw [8] (fun q wr => ∃ k : Nat, q = .int .i64 k ∧ k ≤ n ∧ Hid (SomeTab w wr w.heap.size)) (fun q _ => n - (intOf q).toNat)
    case atStart => exact ⟨0, rfl, Nat.zero_le _, HT1⟩
    case round =>
      obtain ⟨k, rfl, hk, HW⟩ := hrel
      by_cases hlt : k < n
      · obtain ⟨g, o, rfl, hcell, hfl⟩ := HC.out k (by have := HN.out; omega)
        have hfn : (fsl k).length ≤ 1000 := by have := (HP.out.2 k (by have := HN.out; omega)).2.1; have := hfl.1; omega
        have hnm := HNM.out k (by have := HN.out; omega)
        obtain ⟨y, hy⟩ : ∃ y, xs.getD k act0 = y := ⟨_, rfl⟩
        rw [hy] at hcell hfl
        have hc : ∀ j, j < 5 → w.cell? ⟨g, o + k * 5 + j, none⟩ = y.vals[j]? := fun j hj => by rw [Nat.add_assoc]; exact hcell j hj
        have hfr0 := HW.out.fr
        have HD : Hid (∀ (w3 : World) (b : Nat), Fr (fun _ => False) wr w3 → RAt w3 (some ⟨b, 0, none⟩) 3 begin3 → b < w3.heap.size → wr.heap.size ≤ b → Calls Try.prog 12 #[.agg #[.int .i64 y.kind, .int .i64 y.n, .int .i64 y.long, .string y.name, .slice y.fa y.fn y.fc], .pointer (some ⟨w.heap.size, 0, none⟩), .slice (some ⟨b, 0, none⟩) 3 3] w3 fun r w' => (∃ A B N E a n c, r = .returned (.tuple #[.int .i64 A, .int .i64 B, .agg #[.int .i64 N, .slice a n c, .int .i64 E]])) ∧ SomeTab w w' w.heap.size ∧ Fr (fun _ => False) w w') :=
          Lib.hid (fun w3 b f3 hr hb hW => done_some HW.out f3 hfl hfn hnm hr hb hW)
        have t0 : (0 : Int) ≤ k := by omega
        have t1 : (k : Int) < n := by omega
        clear hcell hfl hy hfn hnm
        go_wp2_with fail
        go_region_held3 (fun w' => Fr (fun _ => False) w w' ∧ w'.cell? ⟨g, o + k * 5, none⟩ = some (.int .i64 y.kind) ∧ w'.cell? ⟨g, o + k * 5 + 1, none⟩ = some (.int .i64 y.n) ∧ w'.cell? ⟨g, o + k * 5 + 2, none⟩ = some (.int .i64 y.long) ∧ w'.cell? ⟨g, o + k * 5 + 3, none⟩ = some (.string y.name) ∧ w'.cell? ⟨g, o + k * 5 + 4, none⟩ = some (.slice y.fa y.fn y.fc))
          (first | exact keepO hc (fr_drew hfr0) | assumption | exact keepO hc (by assumption))
          (first
            | (go_at_call 11; refine (begin_of _).mono ?_; rintro r w3 ⟨rfl, hf, hlt3, hrat⟩; have hw3 : Fr (fun _ => False) w w3 := hfr0.trans (undrew hf))
            | (go_at_call 12; refine (HD.out _ _ (undrew hf) hrat hlt3 (Nat.le_refl _)).mono ?_; rintro r w4 ⟨⟨A, B, N, E, a4, n4, c4, rfl⟩, ht4, hw4⟩))
        all_goals
          have HT4 := Lib.hid ht4
          clear ht4 hw4 hrat hlt3 hw3 hf
          go_wp2
          go_roundw
          case rel => exact ⟨k + 1, by go_num, by omega, HT4⟩
          case measure => simp [intOf]; omega
      · obtain rfl : n = k := by omega
        obtain ⟨es, fss, hp⟩ := HW.out
        obtain ⟨o1, o2, o3, o4, o5, o6⟩ := once es m long
        obtain ⟨A, hA⟩ : ∃ A, ptrA es m = A := ⟨_, rfl⟩
        obtain ⟨B, hB⟩ : ∃ B, ptrB es m = B := ⟨_, rfl⟩
        obtain ⟨C, hC⟩ : ∃ C, arrA (ptrL es m) m long = C := ⟨_, rfl⟩
        obtain ⟨D, hD⟩ : ∃ D, arrB (ptrL es m) m long = D := ⟨_, rfl⟩
        obtain ⟨E1, hE1⟩ : ∃ E1, ptrL es m = E1 := ⟨_, rfl⟩
        obtain ⟨E2, hE2⟩ : ∃ E2, arrL E1 m long = E2 := ⟨_, rfl⟩
        rw [hE1, hE2] at o1 o2 o3 o4 o5 o6
        rw [hE1] at hC hD
        rw [hA] at o1
        rw [hB] at o2
        rw [hC] at o4
        rw [hD] at o5
        have H1 : Hid (Calls Try.prog 25 #[.pointer (some ⟨w.heap.size, 0, none⟩), .int .i64 m] wr fun r w' => r = .returned (.tuple #[.int .i64 A, .int .i64 B]) ∧ (tabFace w w.heap.size E1 fss).P w') := Lib.hid ((ptr_face hp m).mono fun r w' hr => by rw [hA, hB, hE1] at hr; exact ⟨hr.1, hr.2.1⟩)
        have H2 : Hid (∀ W, (tabFace w w.heap.size E1 fss).P W → Calls Try.prog 26 #[.pointer (some ⟨w.heap.size, 0, none⟩), .int .i64 m, .int .i64 long] W fun r w' => r = .returned (.tuple #[.int .i64 C, .int .i64 D]) ∧ (tabFace w w.heap.size E2 fss).P w') := Lib.hid (fun W hW => (array_face hW m long).mono fun r w' hr => by rw [hC, hD, hE2] at hr; exact ⟨hr.1, hr.2.1⟩)
        obtain ⟨L, hL⟩ : ∃ L : Nat, E2.length = L := ⟨_, rfl⟩
        have H3 : Hid (∀ W, (tabFace w w.heap.size E2 fss).P W → Calls Try.prog 20 #[.pointer (some ⟨w.heap.size, 0, none⟩)] W fun r w' => r = .returned (.int .i64 (3 + L)) ∧ W = w') := Lib.hid (fun W hW => by have := count_tab hW; rw [hL] at this; exact this)
        have H4 : Hid (∀ W, (tabFace w w.heap.size E2 fss).P W → Calls Try.prog 25 #[.pointer (some ⟨w.heap.size, 0, none⟩), .int .i64 m] W fun r w' => r = .returned (.tuple #[.int .i64 A, .int .i64 B]) ∧ (tabFace w w.heap.size E2 fss).P w') := Lib.hid (fun W hW => (ptr_face hW m).mono fun r w' hr => by rw [o1, o2, o3] at hr; exact ⟨hr.1, hr.2.1⟩)
        have H5 : Hid (∀ W, (tabFace w w.heap.size E2 fss).P W → Calls Try.prog 26 #[.pointer (some ⟨w.heap.size, 0, none⟩), .int .i64 m, .int .i64 long] W fun r w' => r = .returned (.tuple #[.int .i64 C, .int .i64 D]) ∧ (tabFace w w.heap.size E2 fss).P w') := Lib.hid (fun W hW => (array_face hW m long).mono fun r w' hr => by rw [o4, o5, o6] at hr; exact ⟨hr.1, hr.2.1⟩)
        have H6 : Hid (∀ W W', (tabFace w w.heap.size E2 fss).P W → Fr (fun _ => False) W W' → (tabFace w w.heap.size E2 fss).P W' ∧ Fr (fun _ => False) w W') := Lib.hid (fun W W' hW hf => ⟨(tabFace w w.heap.size E2 fss).quiet hW hf, ((tabFace w w.heap.size E2 fss).quiet hW hf).fr⟩)
        clear hA hB hC hD hE1 hE2 hL o1 o2 o3 o4 o5 o6 hp
        go_wp2_with (first
          | (go_at_call 25; (with_reducible refine H1.out.mono ?_); rintro r v1 ⟨rfl, p1⟩; have HP1 := Lib.hid p1; clear p1)
          | (go_at_call 26; (with_reducible refine (H2.out _ HP1.out).mono ?_); rintro r v2 ⟨rfl, p2⟩; have HP2 := Lib.hid p2; clear p2)
          | (go_at_call 20; (with_reducible refine (H3.out _ HP2.out).mono ?_); rintro r vc ⟨rfl, rfl⟩)
          | (go_at_call 25; (with_reducible refine (H4.out _ HP2.out).mono ?_); rintro r v3 ⟨rfl, p3⟩; have HP3 := Lib.hid p3; clear p3)
          | (go_at_call 26; (with_reducible refine (H5.out _ HP3.out).mono ?_); rintro r v4 ⟨rfl, p4⟩; have HP4 := Lib.hid p4; clear p4)
          | (go_at_call 9; (with_reducible refine (awake_of _).mono ?_); rintro r v5 ⟨rfl, hfr⟩; have HP5 := Lib.hid (H6.out _ _ HP4.out hfr); clear hfr)
          | (go_at_call 20; (with_reducible refine (H3.out _ HP5.out.1).mono ?_); rintro r vd ⟨rfl, rfl⟩))
        go_ret
        exact ⟨rfl, HP5.out.2⟩
end Go.Proofs.Ytlhkhgkgjdfcgaa
