/-
  A strings.Builder of the call's own: written and read; a number's digits.
-/
import Derived.Test.YtoffbjfgledjfaaDoorChecked
import Derived.Test.YtoffbjfgledjfaaDoorFr
import Derived.Test.YtoffbjfgledjfaaDoorShelf
import Derived.Lib.Builder
import Derived.Lib.FrozenHead
import Derived.Laws.Externs
import Derived.KernelRfl
import Derived.Outline
import Derived.LoopTactic
namespace Go.Proofs.YtoffbjfgledjfaaDoor
open Go.RowKit
set_option linter.unusedVariables false
set_option linter.unusedSimpArgs false
/-- Block b is a builder that holds these bytes; v is its row. -/
structure Bld (w : World) (B b : Nat) (v : Value) (l : List UInt8) : Prop where
  cells : w.heap[b]? = some (.cells #[.pointer none, v] 43 (0, 0)) ∨ w.heap[b]? = some (.cells #[.pointer (some ⟨b, 0, none⟩), v] 43 (0, 0))
  row : w.ownsRow B 5 1 v l.length (Lib.byteCells l)
  ne : v.ownBlock ≠ some b
  ge : B ≤ b
theorem Bld.is {w : World} {B b : Nat} {v : Value} {l : List UInt8} (h : Bld w B b v l) : Lib.IsBuilderF 43 5 B b (Lib.byteCells l) w := by
  have hl : (Lib.byteCells l).length = l.length := Lib.byteCells_length l
  have hr := h.row
  rw [← hl] at hr
  rcases h.cells with c | c
  · exact Lib.IsBuilderF.of (.inl ⟨h.ge, v, c, hr, h.ne⟩)
  · exact Lib.IsBuilderF.of (.inr ⟨h.ge, v, c, hr, h.ne⟩)
theorem Bld.start (w : World) : Bld (w.alloc (.cells #[.pointer none, .slice none 0 0] 43)) w.heap.size w.heap.size (.slice none 0 0) [] :=
  ⟨.inl (heap_alloc_new w _), World.ownsRow_nil _ _ _ _, by simp [Value.ownBlock], Nat.le_refl _⟩
theorem Bld.lt {w : World} {B b : Nat} {v : Value} {l : List UInt8} (h : Bld w B b v l) : b < w.heap.size := by
  rcases h.cells with c | c <;> exact (Array.getElem?_eq_some_iff.1 c).1
theorem Bld.fr {F : Nat → Prop} {w w' : World} {B b : Nat} {v : Value} {l : List UInt8} (h : Bld w B b v l) (hf : Fr F w w') (hb : ¬ F b) (hv : ∀ j, v.ownBlock = some j → ¬ F j) : Bld w' B b v l := by
  refine ⟨?_, hf.owns h.row hv, h.ne, h.ge⟩
  rw [hf.block b h.lt hb]; exact h.cells
theorem Fr.of_below {B : Nat} {w w' : World} (h : Below B w w') : Fr (fun k => B ≤ k) w w' := ⟨h.os, h.output, h.size, fun k _ hn => h.block k (by omega)⟩
theorem str_any (B b : Nat) (v : Value) (l : List UInt8) (w : World) (h : Bld w B b v l) (hB : B ≤ w.heap.size) :
    Calls Tryd.prog 12 #[.pointer (some ⟨b, 0, none⟩)] w fun e w' => e = .returned (.string ⟨l.toArray⟩) ∧ Fr (fun k => B ≤ k) w w' :=
  (Tryd.Builder_String_any_k B b l w h.is hB).mono fun e w' hh => ⟨hh.1, Fr.of_below hh.2.2.1⟩
theorem sizeBld : (Tryd.prog.info? 43).map (·.size) = some 2 := by kernel_rfl
theorem liesBld : liesAt Tryd.prog Tryd.prog.depth 43 (2 / Tryd.prog.cellsOf 43) 0 43 1 = true := by kernel_rfl
set_option maxRecDepth 100000 in
set_option maxHeartbeats 4000000 in
theorem cc_fresh (b : Nat) (v : Value) (w : World) (h : w.heap[b]? = some (.cells #[.pointer none, v] 43 (0, 0))) :
    Calls Tryd.prog 18 #[.pointer (some ⟨b, 0, none⟩)] w fun e w' => e = .returned (.tuple #[]) ∧ w' = w.setCell ⟨b, 0, none⟩ (.pointer (some ⟨b, 0, none⟩)) := by
  obtain ⟨j, hj, hjs⟩ := Option.map_eq_some_iff.1 sizeBld
  have h0 : w.cell? ⟨b, 0, none⟩ = some (.pointer none) := by rw [cell_of_row _ _ _ _ _ (0, 0) h]; rfl
  have hz : w.frozen? ⟨b, 0, none⟩ = false := by simp [World.frozen?, h]
  have hsh : w.shape? b = some (43, 2) := by simp [World.shape?, h]
  clear h
  go_enter Tryd.func18, Tryd.ntmps18
  go_wp2
  rw [Lib.run_to_unsafe w ⟨b, 0, none⟩ Tryd.underlying41 Tryd.underlying64 hj (by rw [hjs]; decide) hsh (Nat.zero_lt_succ 1)]
  simp only [Result.andThen]
  rw [Oper.upon_value]
  go_wp2
  rw [run_callFunc_extern Tryd.func31 (by kernel_rfl) (by kernel_rfl) (by kernel_rfl) (e := Extern.AbiNoEscape.same) (by kernel_rfl)]
  rw [Lib.run_noEscape]
  simp only [Result.andThen]
  rw [Oper.upon_value]
  go_wp2
  rw [Lib.run_from_unsafe w ⟨b, 0, none⟩ Tryd.underlying64 Tryd.underlying41 hj hsh liesBld]
  simp only [Result.andThen]
  rw [Oper.upon_value]
  go_wp2
  go_end0
  exact ⟨rfl, rfl⟩
set_option maxRecDepth 100000 in
set_option maxHeartbeats 4000000 in
theorem cc_used (b : Nat) (v : Value) (w : World) (h : w.heap[b]? = some (.cells #[.pointer (some ⟨b, 0, none⟩), v] 43 (0, 0))) :
    Calls Tryd.prog 18 #[.pointer (some ⟨b, 0, none⟩)] w fun e w' => e = .returned (.tuple #[]) ∧ w' = w := by
  have h0 : w.cell? ⟨b, 0, none⟩ = some (.pointer (some ⟨b, 0, none⟩)) := by rw [cell_of_row _ _ _ _ _ (0, 0) h]; rfl
  obtain ⟨j, hj, _⟩ := Option.map_eq_some_iff.1 sizeBld
  clear h
  go_enter Tryd.func18, Tryd.ntmps18
  go_wp2
  rw [Lib.run_neq_ptr_same w _ Tryd.underlying41 hj]
  go_wp2
  go_end0
  exact ⟨rfl, rfl⟩
theorem cc_any {B b : Nat} {v : Value} {l : List UInt8} {w : World} (h : Bld w B b v l) : Calls Tryd.prog 18 #[.pointer (some ⟨b, 0, none⟩)] w fun e w' => e = .returned (.tuple #[]) ∧ w'.heap[b]? = some (.cells #[.pointer (some ⟨b, 0, none⟩), v] 43 (0, 0)) ∧ Bld w' B b v l ∧ Fr (fun k => k = b) w w' ∧ w'.heap.size = w.heap.size := by
  rcases h.cells with c | c
  · refine (cc_fresh b v w c).mono ?_
    rintro e w' ⟨rfl, rfl⟩
    have hf : Fr (fun k => k = b) w (w.setCell ⟨b, 0, none⟩ (.pointer (some ⟨b, 0, none⟩))) := Fr.setCell _ _ _ rfl
    have hc : (w.setCell ⟨b, 0, none⟩ (.pointer (some ⟨b, 0, none⟩))).heap[b]? = some (.cells #[.pointer (some ⟨b, 0, none⟩), v] 43 (0, 0)) := by
      have hg := (Array.getElem?_eq_some_iff.1 c).1
      have he := (Array.getElem?_eq_some_iff.1 c).2
      simp [World.setCell, hg, Array.getElem_modify, he]
    exact ⟨rfl, hc, ⟨.inr hc, hf.owns h.row (fun j e x => h.ne (by rw [e, x])), h.ne, h.ge⟩, hf, by simp [World.setCell]⟩
  · refine (cc_used b v w c).mono ?_
    rintro e w' ⟨rfl, rfl⟩
    exact ⟨rfl, c, h, Fr.refl _ _, rfl⟩
theorem slice_form {w : World} {B n : Nat} {e : TypeId} {v : Value} {xs : List Value} (h : w.ownsRow B e 1 v n xs) : ∃ a k c, v = .slice a k c := by
  rcases h.2 with ⟨rfl, _⟩ | ⟨g, cap, cur, rfl, _⟩
  · exact ⟨_, _, _, rfl⟩
  · exact ⟨_, _, _, rfl⟩
theorem own_ne {w w' : World} {B n b : Nat} {e T : TypeId} {v v' : Value} {cs : Array Value} {xs : List Value} (h : w'.ownsRow B e 1 v' n xs) (hg : w.grownBy w' v.ownBlock) (hn : v.ownBlock ≠ some b) (hb : b < w.heap.size) (hc : w.heap[b]? = some (.cells cs T (0, 0))) (hT : T ≠ e) : v'.ownBlock ≠ some b := by
  intro e1
  rcases h.2 with ⟨rfl, _⟩ | ⟨g, cap, cur, rfl, _, hg2, _⟩
  · simp [Value.ownBlock] at e1
  · have e2 : g = b := by simpa [Value.ownBlock] using e1
    subst e2
    rw [hg.block g hb (fun x => hn x.symm), hc] at hg2
    simp at hg2
    exact hT hg2.2
theorem infoByte : (Tryd.prog.info? 5).map (fun i => (i.zero, i.size, i.bytes)) = some (some (.int .u8 0), 1, 1) := by kernel_rfl
theorem info_partsB {o : Option TypeInfo} {z : Option Value} {s b : Nat} (h : o.map (fun i => (i.zero, i.size, i.bytes)) = some (z, s, b)) : ∃ i, o = some i ∧ i.zero = z ∧ i.size = s ∧ i.bytes = b := by
  cases o with
  | none => simp at h
  | some i => simp at h; exact ⟨i, rfl, h.1, h.2.1, h.2.2⟩
set_option maxRecDepth 100000 in
set_option maxHeartbeats 4000000 in
/-- More bytes. -/
theorem wr_any (B b : Nat) (v : Value) (l : List UInt8) (s : ByteArray) (w : World) (h : Bld w B b v l) (hlen : l.length + s.size ≤ 140737488355328) (hB : B ≤ w.heap.size) :
    Calls Tryd.prog 11 #[.pointer (some ⟨b, 0, none⟩), .string s] w fun e w' => e = .returned (.tuple #[.int .i64 s.size, .nilIface]) ∧ ∃ v', Bld w' B b v' (l ++ s.data.toList) ∧ Fr (fun k => k = b ∨ v.ownBlock = some k) w w' ∧ (∀ j cs T, w.heap[j]? = some (.cells cs T (0, 0)) → T ≠ 5 → v.ownBlock ≠ some j → v'.ownBlock ≠ some j) := by
  obtain ⟨i0, hi, hz0, hz1, hz2⟩ := info_partsB infoByte
  have HI := Lib.hid hi
  have HZ0 := Lib.hid hz0
  have HZ1 := Lib.hid hz1
  have HZ2 := Lib.hid hz2
  have HCC := Lib.hid (cc_any h)
  have HN := Lib.hid h.ne
  have HG := Lib.hid h.ge
  have HL := Lib.hid hlen
  have HBS := Lib.hid hB
  have HLT := Lib.hid h.lt
  clear hi hz0 hz1 hz2 h hlen hB
  go_enter Tryd.func11, Tryd.ntmps11
  go_wp2_with first
    | (go_at_call 18; (with_reducible refine HCC.out.mono ?_); rintro e w1 ⟨rfl, hc, hb, hf, hs⟩; have HB1 := Lib.hid hb; have HF1 := Lib.hid hf; have HS1 := Lib.hid hs; have HC1 := Lib.hid hc; have k1 : w1.cell? ⟨b, 1, none⟩ = some v := (by rw [cell_of_row _ _ _ _ _ (0, 0) hc]; rfl); clear hc hb hf hs)
    | (at_builtin; refine Lib.wpList_append_own_string _ rfl _ _ 34 9 rfl B 5 i0 Tryd.underlying34 Tryd.underlying9 HI.out HZ0.out HZ1.out HZ2.out v l.length (Lib.byteCells l) rfl HB1.out.row s rfl (by have := HL.out; unfold maxLen; omega) (by have := HL.out; omega) (by rw [HS1.out]; exact HBS.out) ?_; intro v' w2 hown hg _; have HO := Lib.hid hown; have HGR := Lib.hid (Fr.of_by hg); have HNE := Lib.hid (own_ne hown hg HB1.out.ne (Array.getElem?_eq_some_iff.1 HC1.out).1 HC1.out (by decide)); have HOWN := Lib.hid (fun j cs T => own_ne (b := j) (cs := cs) (T := T) hown hg); have q := slice_form hown; obtain ⟨sa, sn, sc, rfl⟩ := q; have k2 := HGR.out.cell k1 HN.out; have z2 : w2.frozen? ⟨b, 1, none⟩ = false := (HGR.out.frozen k1 HN.out).trans (by simp [World.frozen?, HC1.out]); clear hown hg)
  refine bodyPost_ret (v := .tuple #[.int .i64 s.size, .nilIface]) (by simp [results, Tryd.results11, go_sem]) rfl ⟨rfl, .slice sa sn sc, ⟨.inr ?_, ?_, ?_, HG.out⟩, ?_, ?_⟩
  · have hc : w2.heap[b]? = some (.cells #[.pointer (some ⟨b, 0, none⟩), v] 43 (0, 0)) := (HGR.out.block b (Array.getElem?_eq_some_iff.1 HC1.out).1 HN.out).trans HC1.out
    have hg := (Array.getElem?_eq_some_iff.1 hc).1
    have he := (Array.getElem?_eq_some_iff.1 hc).2
    simp [World.setCell, hg, Array.getElem_modify, he]
  · have hne : ∀ j, (Value.slice sa sn sc).ownBlock = some j → ¬ j = b := fun j e x => HNE.out (by rw [e, x])
    have := (Fr.setCell (F := fun k => k = b) w2 ⟨b, 1, none⟩ (.slice sa sn sc) rfl).owns HO.out hne
    rw [List.length_append]
    have hl : s.data.toList.length = s.size := by cases s; rfl
    rw [hl]
    have e2 : Lib.byteCells (l ++ s.data.toList) = Lib.byteCells l ++ Lib.strCells s := by simp [Lib.byteCells, Lib.strCells]
    rw [e2]
    exact this
  · exact HNE.out
  · exact ((HF1.out.mono (fun _ _ e => .inl e)).trans (HGR.out.mono (fun _ _ e => .inr e))).trans ((Fr.setCell (F := fun k => k = b) w2 ⟨b, 1, none⟩ _ rfl).mono (fun _ _ e => .inl e))
  · intro j cs T hj hT hn
    by_cases e : j = b
    · rw [e]; exact HNE.out
    · exact HOWN.out j cs T hn (by rw [HS1.out]; exact (Array.getElem?_eq_some_iff.1 hj).1) ((HF1.out.block j (Array.getElem?_eq_some_iff.1 hj).1 e).trans hj) hT
end Go.Proofs.YtoffbjfgledjfaaDoor
