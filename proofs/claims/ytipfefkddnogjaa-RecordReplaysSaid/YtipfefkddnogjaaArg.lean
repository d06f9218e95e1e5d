/-
  Arguments that are slices of records or of words: opened to cells; and what a law's call leaves, put together.
-/
import Derived.Test.YtipfefkddnogjaaRecQ
import Derived.Deep.SlicePairs
import Derived.Carry
import Derived.ProofKit
import Derived.OpenShut
import Derived.WideShapes
import Derived.ChangeSame
namespace Go.Proofs.Ytipfefkddnogjaa
open Go.ChangeShapes Go.WideShapes Go.ChangeAt Go.RowKit Go.Deep
set_option linter.unusedVariables false

theorem cells66 : Try.prog.cellsOf 66 = 2 := by kernel_rfl
theorem cells24 : Try.prog.cellsOf 24 = 1 := by kernel_rfl
theorem laidOut : laidOutB Try.prog = true := by kernel_rfl
theorem below_by {W W' : World} (h : W.grownBy W' none) : Below W.heap.size W W' := ⟨h.os, h.tape, h.output, h.size, fun k hk => h.block k hk (by simp)⟩
def asInt : Value → Int | .int _ q => q | _ => 0
section
variable {H : Type} {enc : TypeId × Value → H} {w : World} {spare : Nat → Bool} {held : Bool}
/-- A slice of records that came in. -/
theorem open_recs {fuel : Nat} {cs : List Value} {x : DataW H × List MemPlace} (h : DataW.trod enc Try.prog w 0 spare held fuel 50 cs = some x) :
    ∃ (a : Option Addr) (l : List Rc) (c : Nat), cs = [.slice a l.length c] ∧ Rcs l ∧ RecAt w a l ∧ l.length ≤ maxLen := by
  rcases open_slice_pairs Try.underlying50 Try.underlying66 cells66 rfl rfl cells24 cells24 h with ⟨rfl, _⟩ | ⟨a, len, cap, m, n, V0, V1, D0, D1, P0, P1, rfl, _, hl, hm, hmm, _, hi⟩
  · exact ⟨none, [], 0, rfl, fun r hr => absurd hr (by simp), fun k hk => absurd hk (by simp), by simp⟩
  · have hlm : len ≤ m := by rw [hmm]; split <;> omega
    refine ⟨some a, (List.range len).map (fun i => (asInt (V0 i), asInt (V1 i))), cap, by simp, ?_, ?_, by simp; omega⟩
    · intro r hr
      simp only [List.mem_map, List.mem_range] at hr
      obtain ⟨i, hil, rfl⟩ := hr
      obtain ⟨_, _, t0, t1⟩ := hi i (by omega)
      obtain ⟨x0, e0, _, w0⟩ := DataW.trod_int Try.underlying24 t0
      obtain ⟨x1, e1, _, w1⟩ := DataW.trod_int Try.underlying24 t1
      simp only [List.cons.injEq, and_true] at e0 e1
      rw [e0, e1]
      exact ⟨wf_u32 w0, wf_u32 w1⟩
    · intro k hk
      simp at hk
      obtain ⟨c0, c1, t0, t1⟩ := hi k (by omega)
      obtain ⟨x0, e0, _, w0⟩ := DataW.trod_int Try.underlying24 t0
      obtain ⟨x1, e1, _, w1⟩ := DataW.trod_int Try.underlying24 t1
      simp only [List.cons.injEq, and_true] at e0 e1
      obtain ⟨g0, _, _, _⟩ := hi 0 (by omega)
      obtain ⟨b, off, spot⟩ := a
      have hspot : spot = none := by simpa [Addr.add] using World.cell?_spot g0
      subst hspot
      refine ⟨b, off, rfl, ?_, ?_⟩
      · rw [Addr.add_lit] at c0
        rw [c0, e0]; simp [List.getD_eq_getElem?_getD, List.getElem?_range hk, e0, e1, asInt]
      · rw [Addr.add_lit] at c1
        rw [Nat.add_assoc, c1, e1]; simp [List.getD_eq_getElem?_getD, List.getElem?_range hk, e0, e1, asInt]
/-- A slice of words that came in. -/
theorem open_words {fuel : Nat} {cs : List Value} {x : DataW H × List MemPlace} (h : DataW.trod enc Try.prog w 0 spare held fuel 39 cs = some x) :
    ∃ (v : Value) (out : List Int), cs = [v] ∧ IntV w v out := by
  rcases open_ints Try.underlying39 Try.underlying24 cells24 h with ⟨rfl, _⟩ | ⟨a, len, cap, zs, rfl, _, hl, hm, hz, _, hi, hw⟩
  · exact ⟨_, [], rfl, Or.inl ⟨rfl, rfl⟩⟩
  · have hlz : len ≤ zs.length := by rw [hz]; split <;> omega
    have e : (zs.take len).length = len := by rw [List.length_take]; omega
    refine ⟨.slice (some a) len cap, zs.take len, rfl, Or.inr ⟨a, cap, by rw [e], by omega, by unfold maxLen at hm; omega, ?_⟩⟩
    intro k hk
    rw [e] at hk
    have c0 := hi k (by omega)
    have g0 := hi 0 (by omega)
    obtain ⟨b, off, spot⟩ := a
    have hspot : spot = none := by simpa [Addr.add] using World.cell?_spot g0
    subst hspot
    refine ⟨b, off, rfl, ?_⟩
    rw [Addr.add_lit] at c0
    rw [c0, List.getD_eq_getElem?_getD, List.getD_eq_getElem?_getD, List.getElem?_take, if_pos hk]
theorem post_by {f : Func} {s : ChangeSpec} {apart fresh handsOn : Bool} {W W' : World} {args : Array Value} {v : Value} {ds gs : List (DataW H)} {before pa pv : List MemPlace}
    (hW : DataW.Whole enc Try.prog f.params.toList s.vars apart W args.toList ds gs before)
    (hres : DataW.TrodAll enc Try.prog W' (match fresh with | true => W.heap.size | false => 0) (fun _ => false) handsOn f.resultTypes.toList (v.resultList f.resultTypes.size) (s.fn H (ds ++ gs)).results [])
    (hargs : DataW.TrodAll enc Try.prog W' 0 (fun b => decide (b < W.heap.size)) true f.params.toList args.toList (s.fn H (ds ++ gs)).args pa)
    (hvars : DataW.TrodVars enc Try.prog W' (fun b => decide (b < W.heap.size)) s.vars (s.fn H (ds ++ gs)).vars pv) (hps : before = pa ++ pv) (hb : Below W.heap.size W W') :
    s.post enc Try.prog f apart fresh handsOn false W args v W' :=
  ⟨ds, gs, before, [], pa, pv, hW, hres, hargs, hvars, hb.frame _, fun h => by cases h⟩
end
end Go.Proofs.Ytipfefkddnogjaa
