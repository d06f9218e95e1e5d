/-
  The contract of 'see' (layer 4): the first record of a number, and whether a record is a replay; what becomes of the map of the records seen.
-/
import Derived.Test.YtipfefkddnogjaaRows
import Derived.Test.YtipfefkddnogjaaRecM
import Derived.Test.YtipfefkddnogjaaCode
import Derived.RegionTactic
import Derived.ChangeAlike
import Derived.Maps.AppendAt
import Derived.Deep.RegionLaw
namespace Go.Proofs.Ytipfefkddnogjaa
open Go.RowKit Go.Maps
set_option linter.unusedVariables false
set_option linter.unusedSimpArgs false

/-- How a record reads as a map's element. -/
def recElem (v : Value) : Option (DataW Unit × List MemPlace) :=
  match v with
  | .agg cs => match cs.toList with
    | [.int .u32 a, .int .u32 b] => some (recD (a, b), [])
    | _ => none
  | _ => none
theorem recElem_mk (a b : Int) : recElem (.agg #[.int .u32 a, .int .u32 b]) = some (recD (a, b), []) := rfl
theorem recElem_inv {v : Value} {z : DataW Unit × List MemPlace} (h : recElem v = some z) : ∃ a b : Int, v = .agg #[.int .u32 a, .int .u32 b] ∧ z = (recD (a, b), []) := by
  unfold recElem at h
  split at h
  · rename_i cs
    split at h
    · rename_i a b e
      cases h
      refine ⟨a, b, ?_, rfl⟩
      rw [← Array.toArray_toList (xs := cs), e]
    · cases h
  · cases h
theorem recD_inj {a b : Rc} (h : recD a = recD b) : a = b := by
  unfold recD at h
  injection h with h
  simp at h
  exact Prod.ext h.1 h.2
theorem law24 : Keyed Try.prog 24 := int_keyed Try.underlying24
theorem zero66 (w : World) : (zeroValue 66).run Try.prog w = .ok (.agg #[.int .u32 0, .int .u32 0]) w := by kernel_rfl
theorem wf_of {a : Int} (h : 0 ≤ a ∧ a ≤ 4294967295) : (Lit.int .u32 a).wf = true := by
  simp [Lit.wf, IntKind.min, IntKind.max, IntKind.signed, IntKind.bits]; omega
abbrev ownsR (w : World) (B : Nat) (acc : List Rc) : Prop := w.ownsMap Try.prog 24 recElem B acc.length (mapOf acc)
section
variable {ops : Array Oper} {rest : List Oper} {o : Oper} {a : Act} {Q : Exit → Act → World → Prop}
theorem lookup_none (w : World) (hg : o.guard = none) (m x : Operand) (hop : o.op = Op.lookup 98 m x true) (B : Nat) (acc : List Rc) (hm : a.eval m = .map (some B)) (hown : ownsR w B acc) (s : Int) (hs : 0 ≤ s ∧ s ≤ 4294967295) (hx : a.eval x = .int .u32 s) (hn : hasN acc s = false)
    (hK : wpList Try.prog ops Q rest (a.put o.dst (.tuple #[.agg #[.int .u32 0, .int .u32 0], .bool false])) w) : wpList Try.prog ops Q (o :: rest) a w := by
  refine wpList_lookup_own_ok w hg m x 98 hop 24 66 law24 Try.underlying98 recElem (zero66 w) (recD (0, 0)) [] rfl B acc.length (mapOf acc) hm hown _ (.int .u32 s) hx (keyOf_int_mk Try.underlying24 (wf_of hs)) (fun v ps hv => ?_)
  have hh : Maps.has (mapOf acc) (.int .u32 s) = false := by rw [has_mapOf, hn]
  rw [Maps.atKey_of_not_has hh] at hv
  obtain ⟨p, q, rfl, e⟩ := recElem_inv hv
  simp only [Prod.mk.injEq] at e
  have := recD_inj e.1
  simp only [Prod.mk.injEq] at this
  obtain ⟨rfl, rfl⟩ := this
  rw [hh]; exact hK
theorem lookup_some (w : World) (hg : o.guard = none) (m x : Operand) (hop : o.op = Op.lookup 98 m x true) (B : Nat) (acc : List Rc) (ha : Apart acc) (hm : a.eval m = .map (some B)) (hown : ownsR w B acc) (s : Int) (hs : 0 ≤ s ∧ s ≤ 4294967295) (hx : a.eval x = .int .u32 s) (hn : hasN acc s = true)
    (hK : wpList Try.prog ops Q rest (a.put o.dst (.tuple #[.agg #[.int .u32 s, .int .u32 (valN acc s)], .bool true])) w) : wpList Try.prog ops Q (o :: rest) a w := by
  refine wpList_lookup_own_ok w hg m x 98 hop 24 66 law24 Try.underlying98 recElem (zero66 w) (recD (0, 0)) [] rfl B acc.length (mapOf acc) hm hown _ (.int .u32 s) hx (keyOf_int_mk Try.underlying24 (wf_of hs)) (fun v ps hv => ?_)
  have hh : Maps.has (mapOf acc) (.int .u32 s) = true := by rw [has_mapOf, hn]
  rw [at_mapOf ha hn] at hv
  obtain ⟨p, q, rfl, e⟩ := recElem_inv hv
  simp only [Prod.mk.injEq] at e
  have := recD_inj e.1
  simp only [Prod.mk.injEq] at this
  obtain ⟨rfl, rfl⟩ := this
  rw [hh]; exact hK
end
/-- What a call of 'see' leaves. -/
def SeeP (B : Nat) (acc : List Rc) (v : Value) (w : World) (e : Ending) (w' : World) : Prop := e = .returned v ∧ ownsR w' B acc ∧ w.grownBy w' (some B)
set_option maxHeartbeats 2000000 in
theorem see_old (B : Nat) (acc : List Rc) (r : Rc) (hr : r.ok) (ha : Apart acc) (hn : hasN acc r.1 = true) (w : World) (hown : ownsR w B acc) :
    Calls Try.prog 62 #[.map (some B), .agg #[.int .u32 r.1, .int .u32 r.2]] w (SeeP B acc (.tuple #[.agg #[.int .u32 r.1, .int .u32 (valN acc r.1)], .bool true]) w) := by
  have HO := Lib.hid hown
  have HN := Lib.hid hn
  obtain ⟨s, v⟩ := r
  obtain ⟨⟨s0, s1⟩, ⟨v0, v1⟩⟩ := hr
  clear hn hown
  simp only at HN s0 s1 v0 v1 ⊢
  go_enter Try.func62, Try.ntmps62
  go_wp2_with (first | (at_lookup; refine lookup_some _ rfl _ _ rfl B acc ha rfl (by exact (HO.out.alloc _).alloc _) s ⟨s0, s1⟩ rfl HN.out ?_))
  exact bodyPost_ret (v := .tuple #[.agg #[.int .u32 s, .int .u32 (valN acc s)], .bool true]) (by simp [results, Try.results62, go_sem]) rfl ⟨rfl, (HO.out.alloc _).alloc _, (World.grownBy_alloc _ _ _).trans (World.grownBy_alloc _ _ _)⟩
theorem store_run {w : World} {B : Nat} {acc : List Rc} (hown : ownsR w B acc) (r : Rc) (hr : r.ok) (hl : acc.length < 1000000) :
    ∃ w', (Instr.mapUpdate 98 (.map (some B)) (.int .u32 r.1) (.agg #[.int .u32 r.1, .int .u32 r.2])).run Try.prog w = .ok () w' ∧ ownsR w' B (acc ++ [r]) ∧ w.grownBy w' (some B) := by
  obtain ⟨w', h1, h2, h3⟩ := World.ownsMap.update hown law24 Try.underlying98 (by unfold maxLen; omega) (keyOf_int_mk Try.underlying24 (wf_of hr.1)) (recElem_mk r.1 r.2)
  refine ⟨w', h1, ?_, h3⟩
  unfold ownsR
  rw [mapOf_snoc]; simpa using h2
theorem grownBy_setCell {w w' : World} {row : Option Nat} (h : w.grownBy w' row) {a : Addr} (ha : w.heap.size ≤ a.block) (v : Value) : w.grownBy (w'.setCell a v) row :=
  ⟨h.os, h.tape, h.output, by simpa [World.setCell] using h.size, fun k hk hne => (Below.heap_setCell _ _ _ _ (by omega)).trans (h.block k hk hne)⟩
theorem grownBy_drew2 {w w' : World} {o o' : Obj} {row : Option Nat} (h : ((w.alloc o).alloc o').drew.grownBy w' row) : w.grownBy w' row :=
  ((World.grownBy_alloc w o row).trans (World.grownBy_alloc _ o' row)).trans ⟨h.os, h.tape, h.output, h.size, h.block⟩
set_option maxHeartbeats 4000000 in
theorem see_new (B : Nat) (acc : List Rc) (r : Rc) (hr : r.ok) (ha : Apart acc) (hn : hasN acc r.1 = false) (hl : acc.length < 1000000) (w : World) (hown : ownsR w B acc) :
    Calls Try.prog 62 #[.map (some B), .agg #[.int .u32 r.1, .int .u32 r.2]] w (SeeP B (acc ++ [r]) (.tuple #[.agg #[.int .u32 r.1, .int .u32 r.2], .bool false]) w) := by
  have HO := Lib.hid hown
  have HN := Lib.hid hn
  have HR := Lib.hid hr
  obtain ⟨s, v⟩ := r
  obtain ⟨⟨s0, s1⟩, ⟨v0, v1⟩⟩ := hr
  have hB := hown.lt
  clear hn hown
  simp only at HN s0 s1 v0 v1 ⊢
  go_enter Try.func62, Try.ntmps62
  go_wp2_with (first | (at_lookup; refine lookup_none _ rfl _ _ rfl B acc rfl (by exact (HO.out.alloc _).alloc _) s ⟨s0, s1⟩ rfl HN.out ?_))
  have HO2 : ownsR (((w.alloc (.cells #[.int .u32 s, .int .u32 v] 66)).alloc (.cells #[.int .u32 s, .int .u32 v] 66)).drew) B acc := ((HO.out.alloc _).alloc _).drew
  obtain ⟨w2, hrun, hown2, hg2⟩ := store_run HO2 (s, v) HR.out hl
  have H2 := Lib.hid (And.intro hown2 hg2)
  simp only at hrun
  have z0 := hg2.cell (a := ⟨w.heap.size + 1, 0, none⟩) (v := .int .u32 s) (by simp [go_sem]) (by simp; omega)
  have z1 := hg2.cell (a := ⟨w.heap.size + 1, 1, none⟩) (v := .int .u32 v) (by simp [go_sem]) (by simp; omega)
  have y0 : w2.frozen? ⟨w.heap.size + 1, 0, none⟩ = false := by
    rw [World.frozen?_of_block (hg2.block _ (by simp) (by simp; omega))]; simp [go_sem]
  have y1 : w2.frozen? ⟨w.heap.size + 1, 1, none⟩ = false := by
    rw [World.frozen?_of_block (hg2.block _ (by simp) (by simp; omega))]; simp [go_sem]
  clear hown2 hg2 HO2
  go_region
  all_goals go_wp2
  exact bodyPost_ret (v := .tuple #[.agg #[.int .u32 s, .int .u32 v], .bool false]) (by simp [results, Try.results62, go_sem, z0, z1]) rfl
    ⟨rfl, (H2.out.1.setCell (by simp; omega) _).setCell (by simp; omega) _, grownBy_setCell (grownBy_setCell (grownBy_drew2 H2.out.2) (by simp) _) (by simp) _⟩
end Go.Proofs.Ytipfefkddnogjaa
