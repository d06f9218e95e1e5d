/-
  Tables of types (layer 8): acts that came in; are they few? Tables of types (layer 8): acts as arguments, opened.
-/
import Derived.Test.YtlhkhgkgjdfcgaaQKindKa
import Derived.LoopTactic
import Derived.Outline
import Derived.Deep.Slices
import Derived.ProofKit
import Derived.OpenShut
import Derived.WideShapes
import Derived.ChangeSame
namespace Go.Proofs.Ytlhkhgkgjdfcgaa
open Go.RowKit Go.ChangeShapes Go.WideShapes Go.ChangeAt Go.Deep
set_option linter.unusedVariables false
set_option linter.unusedSimpArgs false
def act0 : ActV := ⟨0, 0, 0, ⟨#[]⟩, none, 0, 0⟩
/-- A slice of acts as it lies in memory; the k-th has the fields fsl k. -/
def ActsAt (w : World) (a : Option Addr) (n : Nat) (xs : List ActV) (fsl : Nat → List Fld) : Prop :=
  n = xs.length ∧ ∀ k, k < xs.length → ∃ g o, a = some ⟨g, o, none⟩ ∧ (∀ j, j < 5 → w.cell? ⟨g, o + (k * 5 + j), none⟩ = (xs.getD k act0).vals[j]?) ∧ FldAt w (xs.getD k act0).fa (xs.getD k act0).fn (fsl k)
theorem ActsAt.quiet {w w' : World} {a : Option Addr} {n : Nat} {xs : List ActV} {fsl : Nat → List Fld} (h : ActsAt w a n xs fsl) (hf : Fr (fun _ => False) w w') : ActsAt w' a n xs fsl := by
  refine ⟨h.1, fun k hk => ?_⟩
  obtain ⟨g, o, ha, hc, hl⟩ := h.2 k hk
  refine ⟨g, o, ha, fun j hj => ?_, hl.quiet hf⟩
  have h1 : ∃ x, (xs.getD k act0).vals[j]? = some x := ⟨_, List.getElem?_eq_getElem (by simpa [ActV.vals] using hj)⟩
  obtain ⟨x, h1⟩ := h1
  rw [h1]
  exact hf.cell ((hc j hj).trans h1) id
/-- What few acts are. -/
def FewP (xs : List ActV) (fsl : Nat → List Fld) : Prop := xs.length ≤ 30 ∧ ∀ k, k < xs.length → (xs.getD k act0).name.size ≤ 100 ∧ (xs.getD k act0).fn ≤ 12 ∧ ∀ i, i < (fsl k).length → ((fsl k).getD i fld0).name.size ≤ 100
set_option maxRecDepth 100000 in
set_option maxHeartbeats 2000000 in
theorem few_of {w : World} {a : Option Addr} {n c : Nat} {xs : List ActV} {fsl : Nat → List Fld} (h : ActsAt w a n xs fsl) (hn : (n : Int) ≤ 9223372036854775807) (hsz : ∀ k, k < xs.length → (xs.getD k act0).name.size ≤ maxLen ∧ (xs.getD k act0).fn ≤ maxLen ∧ ∀ i, i < (fsl k).length → ((fsl k).getD i fld0).name.size ≤ maxLen) :
    Calls Try.prog 8 #[.slice a n c] w fun r w' => ∃ b, r = .returned (.bool b) ∧ (b = true → FewP xs fsl) ∧ w = w' := by
  have HC := Lib.hid h.2
  have HN := Lib.hid h.1
  have HSZ := Lib.hid hsz
  clear h hsz
  by_cases h30 : 30 < n
  · have hb : decide ((30 : Int) < n) = true := decide_eq_true (by omega)
    go_enter Try.func8, Try.ntmps8
    go_wp2
    go_ret
    exact ⟨false, rfl, fun e => (by cases e), rfl⟩
  · have hb : decide ((30 : Int) < n) = false := decide_eq_false (by omega)
    have hn30 : n ≤ 30 := by omega
    clear h30 hn
    go_enter Try.func8, Try.ntmps8
    go_wp2
    go_loopw [3] (fun q wr => ∃ k : Nat, q = .int .i64 k ∧ k ≤ n ∧ Hid (∀ j, j < k → (xs.getD j act0).name.size ≤ 100 ∧ (xs.getD j act0).fn ≤ 12 ∧ ∀ i, i < (fsl j).length → ((fsl j).getD i fld0).name.size ≤ 100) ∧ wr = w) (fun q _ => n - (intOf q).toNat)
    case atStart => exact ⟨0, rfl, Nat.zero_le _, Lib.hid fun j hj => by omega, rfl⟩
    case round =>
      obtain ⟨k, rfl, hk, HW, rfl⟩ := hrel
      by_cases hlt : k < n
      · obtain ⟨g, o, rfl, hcell, hfl⟩ := HC.out k (by have := HN.out; omega)
        obtain ⟨s1, s2, s3⟩ := HSZ.out k (by have := HN.out; omega)
        obtain ⟨e, he⟩ : ∃ e, xs.getD k act0 = e := ⟨_, rfl⟩
        rw [he] at hcell hfl s1 s2
        have HE := Lib.hid he
        have q3 : wr.cell? ⟨g, o + k * 5 + 3, none⟩ = some (.string e.name) := hcell 3 (by decide)
        have q4 : wr.cell? ⟨g, o + k * 5 + 4, none⟩ = some (.slice e.fa e.fn e.fc) := hcell 4 (by decide)
        have t0 : (0 : Int) ≤ k := by omega
        have t1 : (k : Int) < n := by omega
        clear hcell he
        unfold maxLen at s1 s2
        by_cases c1 : 100 < e.name.size
        · have d1 : decide ((100 : Int) < e.name.size) = true := decide_eq_true (by omega)
          go_wp2
          go_ret
          exact ⟨false, rfl, fun e => (by cases e), rfl⟩
        · have d1 : decide ((100 : Int) < e.name.size) = false := decide_eq_false (by omega)
          by_cases c2 : 12 < e.fn
          · have d2 : decide ((12 : Int) < e.fn) = true := decide_eq_true (by omega)
            go_wp2
            go_ret
            exact ⟨false, rfl, fun e => (by cases e), rfl⟩
          · have d2 : decide ((12 : Int) < e.fn) = false := decide_eq_false (by omega)
            have hl2 : (fsl k).length = e.fn := hfl.1.symm
            go_wp2
            go_loopw [4] (fun q w2 => ∃ i : Nat, q = .int .i64 i ∧ i ≤ e.fn ∧ Hid (∀ j, j < i → ((fsl k).getD j fld0).name.size ≤ 100) ∧ w2 = wr) (fun q _ => e.fn - (intOf q).toNat)
            case atStart => exact ⟨0, rfl, Nat.zero_le _, Lib.hid fun j hj => by omega, rfl⟩
            case round =>
              obtain ⟨i, rfl, hi, HW2, rfl⟩ := hrel
              by_cases hli : i < e.fn
              · obtain ⟨g2, o2, ha2, hc2⟩ := hfl.2 i (by omega)
                have s4 := s3 i (by omega)
                obtain ⟨f, hf⟩ : ∃ f, (fsl k).getD i fld0 = f := ⟨_, rfl⟩
                rw [hf] at hc2 s4
                have HF := Lib.hid hf
                rw [ha2] at q4
                have p0 : wr.cell? ⟨g2, o2 + i * 3, none⟩ = some (.string f.name) := hc2 0 (by decide)
                have t2 : (0 : Int) ≤ i := by omega
                have t3 : (i : Int) < e.fn := by omega
                clear hc2 hf
                unfold maxLen at s4
                by_cases c3 : 100 < f.name.size
                · have d3 : decide ((100 : Int) < f.name.size) = true := decide_eq_true (by omega)
                  go_wp2
                  go_ret
                  exact ⟨false, rfl, fun e => (by cases e), rfl⟩
                · have d3 : decide ((100 : Int) < f.name.size) = false := decide_eq_false (by omega)
                  go_wp2
                  go_roundw
                  case rel => exact ⟨i + 1, by go_num, by omega, Lib.hid (fun j hj => by
                    by_cases hjk : j < i
                    · exact HW2.out j hjk
                    · obtain rfl : j = i := by omega
                      rw [HF.out]; omega), trivial⟩
                  case measure => simp [intOf]; omega
              · obtain rfl : e.fn = i := by omega
                go_wp2
                go_roundw
                case rel => exact ⟨k + 1, by go_num, by omega, Lib.hid (fun j hj => by
                  by_cases hjk : j < k
                  · exact HW.out j hjk
                  · obtain rfl : j = k := by omega
                    rw [HE.out]
                    exact ⟨by omega, by omega, fun i hi => HW2.out i (by omega)⟩), trivial⟩
                case measure => simp [intOf]; omega
      · obtain rfl : n = k := by omega
        go_wp2
        go_ret
        exact ⟨true, rfl, fun _ => ⟨by have := HN.out; omega, fun j hj => HW.out j (by have := HN.out; omega)⟩, rfl⟩
theorem Fr.frame {W W' : World} (h : Fr (fun _ => False) W W') (may : MemPlace → Prop) : W.keptBut W' may := by
  refine ⟨h.os, h.output, fun i hi => ?_⟩
  rw [h.block i hi id]
  split <;> simp_all
theorem Fr.same {W W' : World} (h : Fr (fun _ => False) W W') {p : MemPlace} (hp : p.block < W.heap.size) : W.sameAt W' p := by
  cases p with
  | cell b o => exact World.cell?_of_block (w := W) (h.block b hp id)
  | map b => exact h.block b hp id
theorem Fr.trod {H : Type} {enc : TypeId × Value → H} {P : Program} {t : TypeId} (hl : laidOutB P = true) (hr : P.readableRec t = true) (hrow : t < P.types.size) {W W' : World} {v : Value} {d : DataW H} {ps : List MemPlace}
    (h : DataW.Trod enc P W 0 (fun _ => true) true t v d ps) (hb : Fr (fun _ => False) W W') (hlt : ∀ x ∈ ps, x.block < W.heap.size) :
    DataW.Trod enc P W' 0 (fun b => decide (b < W.heap.size)) true t v d ps :=
  WideElems.Trod_stays hl hr hrow h (fun x hx => hb.same (hlt x hx)) (fun x hx => by simpa using hlt x hx)
theorem kindLaid : laidOutB Try.prog = true := by kernel_rfl
theorem cellsFld : Try.prog.cellsOf 53 = 3 := by kernel_rfl
theorem cellsAct : Try.prog.cellsOf 35 = 5 := by kernel_rfl
theorem cellsInt : Try.prog.cellsOf 3 = 1 := by kernel_rfl
theorem cellsStr : Try.prog.cellsOf 9 = 1 := by kernel_rfl
theorem cellsFs : Try.prog.cellsOf 33 = 1 := by kernel_rfl
section
variable {H : Type} {enc : TypeId × Value → H} {w : World} {spare : Nat → Bool} {held : Bool}
set_option maxRecDepth 100000 in
theorem open_fld {fuel : Nat} {cs : List Value} {x : DataW H × List MemPlace} (h : DataW.trod enc Try.prog w 0 spare held fuel 53 cs = some x) :
    ∃ f : Fld, cs = f.vals ∧ f.name.size ≤ maxLen := by
  obtain ⟨xs, n, _, _, hl, hlen, hg⟩ := DataW.trod_struct Try.underlying53 h
  rw [cellsFld] at hl
  match cs, hl, xs, hlen with
  | [c0, c1, c2], _, [y0, y1, y2], _ =>
    have g0 : DataW.trod enc Try.prog w 0 spare held n 9 [c0] = some y0 := by simpa [cellsStr, cellsInt] using hg 0 _ rfl
    have g1 : DataW.trod enc Try.prog w 0 spare held n 3 [c1] = some y1 := by simpa [cellsStr, cellsInt] using hg 1 _ rfl
    have g2 : DataW.trod enc Try.prog w 0 spare held n 3 [c2] = some y2 := by simpa [cellsStr, cellsInt] using hg 2 _ rfl
    obtain ⟨s, e0, _, hs⟩ := DataW.trod_string Try.underlying9 g0
    obtain ⟨a1, e1, _, _⟩ := DataW.trod_int Try.underlying3 g1
    obtain ⟨a2, e2, _, _⟩ := DataW.trod_int Try.underlying3 g2
    simp only [List.cons.injEq, and_true] at e0 e1 e2
    subst e0 e1 e2
    exact ⟨⟨s, a1, a2⟩, rfl, hs⟩
theorem open_flds {fuel : Nat} {cs : List Value} {x : DataW H × List MemPlace} (h : DataW.trod enc Try.prog w 0 spare held fuel 33 cs = some x) :
    ∃ (a : Option Addr) (fs : List Fld) (c : Nat), cs = [.slice a fs.length c] ∧ FldAt w a fs.length fs ∧ (∀ f ∈ fs, f.name.size ≤ maxLen) ∧ fs.length ≤ maxLen := by
  rcases open_slice Try.underlying33 h with ⟨rfl, _⟩ | ⟨a, len, cap, m, n, D, Pl, rfl, _, hl, hm, hmm, _, hi⟩
  · exact ⟨none, [], 0, rfl, ⟨rfl, fun k hk => by simp at hk⟩, fun f hf => by simp at hf, by simp⟩
  · have hlm : len ≤ m := by rw [hmm]; split <;> omega
    have each : ∀ i, i < len → ∃ f : Fld, (∀ j, j < 3 → w.cell? (a.add (i * 3 + j)) = f.vals[j]?) ∧ f.name.size ≤ maxLen := fun i hil => by
      obtain ⟨cs', h1, h2⟩ := hi i (by omega)
      rw [cellsFld] at h1
      obtain ⟨f, rfl, hs⟩ := open_fld h2
      obtain ⟨_, _, hc⟩ := World.cells?_some h1
      exact ⟨f, fun j hj => by rw [← hc j hj, Addr.add_add], hs⟩
    have hch : ∃ F : Nat → Fld, ∀ i, i < len → (∀ j, j < 3 → w.cell? (a.add (i * 3 + j)) = (F i).vals[j]?) ∧ (F i).name.size ≤ maxLen :=
      ⟨fun i => if hi : i < len then (each i hi).choose else fld0, fun i hi => by simp only [dif_pos hi]; exact (each i hi).choose_spec⟩
    obtain ⟨F, hF⟩ := hch
    refine ⟨some a, (List.range len).map F, cap, by simp, ⟨rfl, fun k hk => ?_⟩, fun f hf => ?_, by simp; omega⟩
    · simp at hk
      obtain ⟨h1, _⟩ := hF k hk
      have g0 := (hF 0 (by omega)).1 0 (by decide)
      obtain ⟨b, off, spot⟩ := a
      have hspot : spot = none := by
        have g1 : w.cell? ⟨b, off, spot⟩ = some (.string (F 0).name) := g0
        exact World.cell?_spot g1
      subst hspot
      refine ⟨b, off, rfl, fun j hj => ?_⟩
      have := h1 j hj
      rw [Addr.add_lit] at this
      rw [this]
      simp [List.getD_eq_getElem?_getD, List.getElem?_range hk]
    · simp only [List.mem_map, List.mem_range] at hf
      obtain ⟨i, hil, rfl⟩ := hf
      exact (hF i hil).2
/-- An act's five values. -/
theorem open_act {fuel : Nat} {cs : List Value} {x : DataW H × List MemPlace} (h : DataW.trod enc Try.prog w 0 spare held fuel 35 cs = some x) :
    ∃ (y : ActV) (fs : List Fld), cs = y.vals ∧ FldAt w y.fa y.fn fs ∧ (∀ f ∈ fs, f.name.size ≤ maxLen) ∧ y.fn ≤ maxLen ∧ y.name.size ≤ maxLen := by
  obtain ⟨xs, n, _, _, hl, hlen, hg⟩ := DataW.trod_struct Try.underlying35 h
  rw [cellsAct] at hl
  match cs, hl, xs, hlen with
  | [c0, c1, c2, c3, c4], _, [y0, y1, y2, y3, y4], _ =>
    have g0 : DataW.trod enc Try.prog w 0 spare held n 3 [c0] = some y0 := by simpa [cellsStr, cellsInt, cellsFs] using hg 0 _ rfl
    have g1 : DataW.trod enc Try.prog w 0 spare held n 3 [c1] = some y1 := by simpa [cellsStr, cellsInt, cellsFs] using hg 1 _ rfl
    have g2 : DataW.trod enc Try.prog w 0 spare held n 3 [c2] = some y2 := by simpa [cellsStr, cellsInt, cellsFs] using hg 2 _ rfl
    have g3 : DataW.trod enc Try.prog w 0 spare held n 9 [c3] = some y3 := by simpa [cellsStr, cellsInt, cellsFs] using hg 3 _ rfl
    have g4 : DataW.trod enc Try.prog w 0 spare held n 33 [c4] = some y4 := by simpa [cellsStr, cellsInt, cellsFs] using hg 4 _ rfl
    obtain ⟨a0, e0, _, _⟩ := DataW.trod_int Try.underlying3 g0
    obtain ⟨a1, e1, _, _⟩ := DataW.trod_int Try.underlying3 g1
    obtain ⟨a2, e2, _, _⟩ := DataW.trod_int Try.underlying3 g2
    obtain ⟨s, e3, _, hs⟩ := DataW.trod_string Try.underlying9 g3
    obtain ⟨fa, fs, fc, e4, hf, hnm, hlm⟩ := open_flds g4
    simp only [List.cons.injEq, and_true] at e0 e1 e2 e3 e4
    subst e0 e1 e2 e3 e4
    exact ⟨⟨a0, a1, a2, s, fa, fs.length, fc⟩, fs, rfl, hf, hnm, hlm, hs⟩
theorem open_acts {fuel : Nat} {cs : List Value} {x : DataW H × List MemPlace} (h : DataW.trod enc Try.prog w 0 spare held fuel 22 cs = some x) :
    ∃ (a : Option Addr) (xs : List ActV) (c : Nat) (fsl : Nat → List Fld), cs = [.slice a xs.length c] ∧ ActsAt w a xs.length xs fsl ∧ xs.length ≤ maxLen ∧ (∀ k, k < xs.length → (xs.getD k act0).name.size ≤ maxLen ∧ (xs.getD k act0).fn ≤ maxLen ∧ ∀ i, i < (fsl k).length → ((fsl k).getD i fld0).name.size ≤ maxLen) := by
  rcases open_slice Try.underlying22 h with ⟨rfl, _⟩ | ⟨a, len, cap, m, n, D, Pl, rfl, _, hl, hm, hmm, _, hi⟩
  · exact ⟨none, [], 0, fun _ => [], rfl, ⟨rfl, fun k hk => by simp at hk⟩, by simp, fun k hk => by simp at hk⟩
  · have hlm : len ≤ m := by rw [hmm]; split <;> omega
    have each : ∀ i, i < len → ∃ q : ActV × List Fld, (∀ j, j < 5 → w.cell? (a.add (i * 5 + j)) = q.1.vals[j]?) ∧ FldAt w q.1.fa q.1.fn q.2 ∧ (∀ f ∈ q.2, f.name.size ≤ maxLen) ∧ q.1.fn ≤ maxLen ∧ q.1.name.size ≤ maxLen := fun i hil => by
      obtain ⟨cs', h1, h2⟩ := hi i (by omega)
      rw [cellsAct] at h1
      obtain ⟨y, fs, rfl, k1, k2, k3, k4⟩ := open_act h2
      obtain ⟨_, _, hc⟩ := World.cells?_some h1
      exact ⟨(y, fs), fun j hj => by rw [← hc j hj, Addr.add_add], k1, k2, k3, k4⟩
    have hch : ∃ F : Nat → ActV × List Fld, ∀ i, i < len → (∀ j, j < 5 → w.cell? (a.add (i * 5 + j)) = (F i).1.vals[j]?) ∧ FldAt w (F i).1.fa (F i).1.fn (F i).2 ∧ (∀ f ∈ (F i).2, f.name.size ≤ maxLen) ∧ (F i).1.fn ≤ maxLen ∧ (F i).1.name.size ≤ maxLen :=
      ⟨fun i => if hi : i < len then (each i hi).choose else (act0, []), fun i hi => by simp only [dif_pos hi]; exact (each i hi).choose_spec⟩
    obtain ⟨F, hF⟩ := hch
    have hget : ∀ k, k < len → ((List.range len).map (fun i => (F i).1)).getD k act0 = (F k).1 := fun k hk => by simp [List.getD_eq_getElem?_getD, List.getElem?_range hk]
    refine ⟨some a, (List.range len).map (fun i => (F i).1), cap, fun i => (F i).2, by simp, ⟨rfl, fun k hk => ?_⟩, by simp; omega, fun k hk => ?_⟩
    · simp at hk
      rw [hget k hk]
      obtain ⟨h1, h2, _⟩ := hF k hk
      have g0 := (hF 0 (by omega)).1 0 (by decide)
      obtain ⟨b, off, spot⟩ := a
      have hspot : spot = none := by
        have g1 : w.cell? ⟨b, off, spot⟩ = some (.int .i64 (F 0).1.kind) := g0
        exact World.cell?_spot g1
      subst hspot
      refine ⟨b, off, rfl, fun j hj => ?_, h2⟩
      have := h1 j hj
      rw [Addr.add_lit] at this
      exact this
    · simp at hk
      rw [hget k hk]
      obtain ⟨_, _, h3, h4, h5⟩ := hF k hk
      exact ⟨h5, h4, fun i hi => h3 _ (getD_mem hi)⟩
end
end Go.Proofs.Ytlhkhgkgjdfcgaa
