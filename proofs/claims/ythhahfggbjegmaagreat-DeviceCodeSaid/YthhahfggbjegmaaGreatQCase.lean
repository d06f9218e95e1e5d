/-
  An argument that is a case (layer 3): its four lists and its number, opened.
-/
import Derived.Test.YthhahfggbjegmaaGreatQDevFf
import Derived.ProofKit
import Derived.OpenShut
import Derived.WideShapes
import Derived.ChangeSame
namespace Go.Proofs.YthhahfggbjegmaaGreat
open Go.ChangeShapes Go.WideShapes Go.ChangeAt Go.RowKit
set_option linter.unusedVariables false
set_option linter.unusedSimpArgs false
theorem caseCells43 : Tryz.prog.cellsOf 26 = 5 := by kernel_rfl
theorem caseCells39 : Tryz.prog.cellsOf 22 = 1 := by kernel_rfl
theorem caseCells40 : Tryz.prog.cellsOf 23 = 1 := by kernel_rfl
theorem caseCells41 : Tryz.prog.cellsOf 24 = 1 := by kernel_rfl
theorem caseCells24 : Tryz.prog.cellsOf 40 = 1 := by kernel_rfl
theorem caseCells5 : Tryz.prog.cellsOf 5 = 1 := by kernel_rfl
theorem caseCells3 : Tryz.prog.cellsOf 3 = 1 := by kernel_rfl
theorem caseLaid : laidOutB Tryz.prog = true := by kernel_rfl
theorem wf_u8 {a : Int} (h : (Lit.int .u8 a).wf = true) : 0 ≤ a ∧ a ≤ 255 := by
  simpa [Lit.wf, IntKind.min, IntKind.max, IntKind.signed, IntKind.bits] using h
section
variable {H : Type} {enc : TypeId × Value → H} {w : World} {spare : Nat → Bool} {held : Bool}
theorem open_list {k : IntKind} {t e : TypeId} (ht : Tryz.prog.underlying t = some (.slice e)) (he : Tryz.prog.underlying e = some (.int k)) (hc : Tryz.prog.cellsOf e = 1) {fuel : Nat} {cs : List Value} {x : DataW H × List MemPlace} (h : DataW.trod enc Tryz.prog w 0 spare held fuel t cs = some x) :
    ∃ (a : Option Addr) (l : List Int) (c : Nat), cs = [.slice a l.length c] ∧ ListAt k w (.slice a l.length c) l ∧ (∀ y ∈ l, (Lit.int k y).wf = true) ∧ l.length ≤ c ∧ c ≤ 9223372036854775807 := by
  rcases open_ints ht he hc h with ⟨rfl, _⟩ | ⟨a, len, cap, zs, rfl, _, hl, hm, hz, _, hi, hw⟩
  · exact ⟨none, [], 0, rfl, .inl ⟨rfl, rfl⟩, fun y hy => absurd hy (by simp), Nat.le_refl _, by omega⟩
  · have hlz : len ≤ zs.length := by rw [hz]; split <;> omega
    have e : (zs.take len).length = len := by rw [List.length_take]; omega
    refine ⟨some a, zs.take len, cap, by rw [e], .inr ⟨a, cap, rfl, fun i hi2 => ?_⟩, fun y hy => hw y (List.mem_of_mem_take hy), by omega, by unfold maxLen at hm; omega⟩
    rw [e] at hi2
    have c0 := hi i (by omega)
    have cz := hi 0 (by omega)
    obtain ⟨b, off, spot⟩ := a
    have hspot : spot = none := by simpa [Addr.add] using World.cell?_spot cz
    subst hspot
    refine ⟨rfl, ?_⟩
    rw [Addr.add_lit] at c0
    rw [c0, List.getD_eq_getElem?_getD, List.getD_eq_getElem?_getD, List.getElem?_take, if_pos hi2]
theorem list_i64 {a : Option Addr} {l : List Int} {c : Nat} (h : ListAt .i64 w (.slice a l.length c) l) (h1 : l.length ≤ c) (h2 : c ≤ 9223372036854775807) : I64s (fun _ => True) w (.slice a l.length c) l := by
  refine ⟨a, c, rfl, h1, h2, ?_⟩
  by_cases h0 : l = []
  · exact .inl h0
  · rcases h with ⟨_, e⟩ | ⟨ad, c', e, hc⟩
    · exact absurd e h0
    · simp only [Value.slice.injEq] at e
      obtain ⟨rfl, _, rfl⟩ := e
      obtain ⟨b, o, sp⟩ := ad
      have := (hc 0 (List.length_pos_iff.2 h0)).1
      simp only at this
      subst this
      exact .inr ⟨b, o, rfl, trivial, fun k hk => (hc k hk).2⟩
theorem list_in {k : IntKind} {l : List Int} {lo hi : Int} (h : ∀ y ∈ l, (Lit.int k y).wf = true) (hk : ∀ y, (Lit.int k y).wf = true → lo ≤ y ∧ y ≤ hi) : ∀ i, i < l.length → lo ≤ l.getD i 0 ∧ l.getD i 0 ≤ hi := by
  intro i hi
  rw [List.getD_eq_getElem?_getD, List.getElem?_eq_getElem hi]
  exact hk _ (h _ (List.getElem_mem hi))
/-- A case that came in. -/
def CaseAt (w : World) (v : Value) : Prop :=
  ∃ (a0 a1 a2 a3 : Option Addr) (ws ds ins fs : List Int) (c0 c1 c2 c3 : Nat) (N : Int), v = .agg #[.slice a0 ws.length c0, .slice a1 ds.length c1, .slice a2 ins.length c2, .slice a3 fs.length c3, .int .i64 N] ∧
    ListAt .u32 w (.slice a0 ws.length c0) ws ∧ ListAt .u8 w (.slice a1 ds.length c1) ds ∧ ListAt .u32 w (.slice a2 ins.length c2) ins ∧ I64s (fun _ => True) w (.slice a3 fs.length c3) fs ∧ Words ws ∧ Bytes ds ∧ Words ins ∧ -9223372036854775808 ≤ N ∧ N ≤ 9223372036854775807
set_option maxRecDepth 100000 in
theorem open_case {r : Reach} {b0 : Nat} {v : Value} {d : DataW H} {p : List MemPlace} (hv : Value.okWide Tryz.prog w r b0 26 v) (h : DataW.Trod enc Tryz.prog w 0 spare held 26 v d p) : CaseAt w v := by
  obtain ⟨cs, rfl, hsz⟩ := okWide_struct Tryz.underlying26 hv
  have h5 := hsz.trans caseCells43
  obtain ⟨l⟩ := cs
  match l, h5 with
  | [c0, c1, c2, c3, c4], _ =>
    obtain ⟨fuel, hf⟩ := h
    obtain ⟨xs, n, _, hx, _, hlen, hg⟩ := DataW.trod_struct Tryz.underlying26 hf
    match xs, hlen with
    | [y0, y1, y2, y3, y4], _ =>
      have g0 : DataW.trod enc Tryz.prog w 0 spare held n 22 [c0] = some y0 := by simpa [Value.cells, caseCells39, caseCells40, caseCells41, caseCells3] using hg 0 _ rfl
      have g1 : DataW.trod enc Tryz.prog w 0 spare held n 23 [c1] = some y1 := by simpa [Value.cells, caseCells39, caseCells40, caseCells41, caseCells3] using hg 1 _ rfl
      have g2 : DataW.trod enc Tryz.prog w 0 spare held n 22 [c2] = some y2 := by simpa [Value.cells, caseCells39, caseCells40, caseCells41, caseCells3] using hg 2 _ rfl
      have g3 : DataW.trod enc Tryz.prog w 0 spare held n 24 [c3] = some y3 := by simpa [Value.cells, caseCells39, caseCells40, caseCells41, caseCells3] using hg 3 _ rfl
      have g4 : DataW.trod enc Tryz.prog w 0 spare held n 3 [c4] = some y4 := by simpa [Value.cells, caseCells39, caseCells40, caseCells41, caseCells3] using hg 4 _ rfl
      obtain ⟨a0, l0, k0, e0, q0, w0, _, _⟩ := open_list Tryz.underlying22 Tryz.underlying40 caseCells24 g0
      obtain ⟨a1, l1, k1, e1, q1, w1, _, _⟩ := open_list Tryz.underlying23 Tryz.underlying5 caseCells5 g1
      obtain ⟨a2, l2, k2, e2, q2, w2, _, _⟩ := open_list Tryz.underlying22 Tryz.underlying40 caseCells24 g2
      obtain ⟨a3, l3, k3, e3, q3, w3, m1, m2⟩ := open_list Tryz.underlying24 Tryz.underlying3 caseCells3 g3
      obtain ⟨N, e4, _, w4⟩ := DataW.trod_int Tryz.underlying3 g4
      simp only [List.cons.injEq, and_true] at e0 e1 e2 e3 e4
      subst e0 e1 e2 e3 e4
      exact ⟨a0, a1, a2, a3, l0, l1, l2, l3, k0, k1, k2, k3, N, rfl, q0, q1, q2, list_i64 q3 m1 m2, list_in w0 (fun _ => wf_u32), list_in w1 (fun _ => wf_u8), list_in w2 (fun _ => wf_u32), (wf_i64 w4).1, (wf_i64 w4).2⟩
theorem post_fr {f : Func} {s : ChangeSpec} {apart fresh handsOn : Bool} {W W' : World} {args : Array Value} {v : Value} {ds gs : List (DataW H)} {before pa pv : List MemPlace}
    (hW : DataW.Whole enc Tryz.prog f.params.toList s.vars apart W args.toList ds gs before)
    (hres : DataW.TrodAll enc Tryz.prog W' (match fresh with | true => W.heap.size | false => 0) (fun _ => false) handsOn f.resultTypes.toList (v.resultList f.resultTypes.size) (s.fn H (ds ++ gs)).results [])
    (hargs : DataW.TrodAll enc Tryz.prog W' 0 (fun b => decide (b < W.heap.size)) true f.params.toList args.toList (s.fn H (ds ++ gs)).args pa)
    (hvars : DataW.TrodVars enc Tryz.prog W' (fun b => decide (b < W.heap.size)) s.vars (s.fn H (ds ++ gs)).vars pv) (hps : before = pa ++ pv) (hb : Fr (fun _ => False) W W') :
    s.post enc Tryz.prog f apart fresh handsOn false W args v W' :=
  ⟨ds, gs, before, [], pa, pv, hW, hres, hargs, hvars, hb.frame _, fun h => by cases h⟩
end
end Go.Proofs.YthhahfggbjegmaaGreat
