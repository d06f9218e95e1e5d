/-
  A strings.Builder of the call's own: written and read; a number's digits. Numbers as text: one, and a list of them, each behind a space. An instruction's line (layer 13). A procedure's lines (layer 13).
-/
import Derived.Test.YtdhagimcffmdfaaDoorChecked
import Derived.Test.YtdhagimcffmdfaaDoorQFr
import Derived.Test.YtdhagimcffmdfaaDoorQShelf
import Derived.Lib.Builder
import Derived.Lib.FrozenHead
import Derived.Laws.Externs
import Derived.KernelRfl
import Derived.Outline
import Derived.LoopTactic
import Derived.Lib.LaidTab
import Derived.Lib.ItoaLen
import Derived.Laws.Concat
import Derived.Deep.RegionHeld3
import Derived.Deep.DeepCutAuto
import Derived.IntWalk
namespace Go.Proofs.YtdhagimcffmdfaaDoor
open Go.RowKit
set_option linter.unusedVariables false
set_option linter.unusedSimpArgs false
/-- Block b is a builder that holds these bytes; v is its row. -/
structure Bld (w : World) (B b : Nat) (v : Value) (l : List UInt8) : Prop where
  cells : w.heap[b]? = some (.cells #[.pointer none, v] 74 (0, 0)) ∨ w.heap[b]? = some (.cells #[.pointer (some ⟨b, 0, none⟩), v] 74 (0, 0))
  row : w.ownsRow B 5 1 v l.length (Lib.byteCells l)
  ne : v.ownBlock ≠ some b
  ge : B ≤ b
theorem Bld.is {w : World} {B b : Nat} {v : Value} {l : List UInt8} (h : Bld w B b v l) : Lib.IsBuilderF 74 5 B b (Lib.byteCells l) w := by
  have hl : (Lib.byteCells l).length = l.length := Lib.byteCells_length l
  have hr := h.row
  rw [← hl] at hr
  rcases h.cells with c | c
  · exact Lib.IsBuilderF.of (.inl ⟨h.ge, v, c, hr, h.ne⟩)
  · exact Lib.IsBuilderF.of (.inr ⟨h.ge, v, c, hr, h.ne⟩)
theorem Bld.start (w : World) : Bld (w.alloc (.cells #[.pointer none, .slice none 0 0] 74)) w.heap.size w.heap.size (.slice none 0 0) [] :=
  ⟨.inl (heap_alloc_new w _), World.ownsRow_nil _ _ _ _, by simp [Value.ownBlock], Nat.le_refl _⟩
theorem Bld.lt {w : World} {B b : Nat} {v : Value} {l : List UInt8} (h : Bld w B b v l) : b < w.heap.size := by
  rcases h.cells with c | c <;> exact (Array.getElem?_eq_some_iff.1 c).1
theorem Bld.fr {F : Nat → Prop} {w w' : World} {B b : Nat} {v : Value} {l : List UInt8} (h : Bld w B b v l) (hf : Fr F w w') (hb : ¬ F b) (hv : ∀ j, v.ownBlock = some j → ¬ F j) : Bld w' B b v l := by
  refine ⟨?_, hf.owns h.row hv, h.ne, h.ge⟩
  rw [hf.block b h.lt hb]; exact h.cells
theorem Fr.of_below {B : Nat} {w w' : World} (h : Below B w w') : Fr (fun k => B ≤ k) w w' := ⟨h.os, h.output, h.size, fun k _ hn => h.block k (by omega)⟩
theorem str_any (B b : Nat) (v : Value) (l : List UInt8) (w : World) (h : Bld w B b v l) (hB : B ≤ w.heap.size) :
    Calls Tryd.prog 41 #[.pointer (some ⟨b, 0, none⟩)] w fun e w' => e = .returned (.string ⟨l.toArray⟩) ∧ Fr (fun k => B ≤ k) w w' :=
  (Tryd.Builder_String_any_k B b l w h.is hB).mono fun e w' hh => ⟨hh.1, Fr.of_below hh.2.2.1⟩
theorem sizeBld : (Tryd.prog.info? 74).map (·.size) = some 2 := by kernel_rfl
theorem liesBld : liesAt Tryd.prog Tryd.prog.depth 74 (2 / Tryd.prog.cellsOf 74) 0 74 1 = true := by kernel_rfl
set_option maxRecDepth 100000 in
set_option maxHeartbeats 4000000 in
theorem cc_fresh (b : Nat) (v : Value) (w : World) (h : w.heap[b]? = some (.cells #[.pointer none, v] 74 (0, 0))) :
    Calls Tryd.prog 55 #[.pointer (some ⟨b, 0, none⟩)] w fun e w' => e = .returned (.tuple #[]) ∧ w' = w.setCell ⟨b, 0, none⟩ (.pointer (some ⟨b, 0, none⟩)) := by
  obtain ⟨j, hj, hjs⟩ := Option.map_eq_some_iff.1 sizeBld
  have h0 : w.cell? ⟨b, 0, none⟩ = some (.pointer none) := by rw [cell_of_row _ _ _ _ _ (0, 0) h]; rfl
  have hz : w.frozen? ⟨b, 0, none⟩ = false := by simp [World.frozen?, h]
  have hsh : w.shape? b = some (74, 2) := by simp [World.shape?, h]
  clear h
  go_enter Tryd.func55, Tryd.ntmps55
  go_wp2
  rw [Lib.run_to_unsafe w ⟨b, 0, none⟩ Tryd.underlying72 Tryd.underlying99 hj (by rw [hjs]; decide) hsh (Nat.zero_lt_succ 1)]
  simp only [Result.andThen]
  rw [Oper.upon_value]
  go_wp2
  rw [run_callFunc_extern Tryd.func67 (by kernel_rfl) (by kernel_rfl) (by kernel_rfl) (e := Extern.AbiNoEscape.same) (by kernel_rfl)]
  rw [Lib.run_noEscape]
  simp only [Result.andThen]
  rw [Oper.upon_value]
  go_wp2
  rw [Lib.run_from_unsafe w ⟨b, 0, none⟩ Tryd.underlying99 Tryd.underlying72 hj hsh liesBld]
  simp only [Result.andThen]
  rw [Oper.upon_value]
  go_wp2
  go_end0
  exact ⟨rfl, rfl⟩
set_option maxRecDepth 100000 in
set_option maxHeartbeats 4000000 in
theorem cc_used (b : Nat) (v : Value) (w : World) (h : w.heap[b]? = some (.cells #[.pointer (some ⟨b, 0, none⟩), v] 74 (0, 0))) :
    Calls Tryd.prog 55 #[.pointer (some ⟨b, 0, none⟩)] w fun e w' => e = .returned (.tuple #[]) ∧ w' = w := by
  have h0 : w.cell? ⟨b, 0, none⟩ = some (.pointer (some ⟨b, 0, none⟩)) := by rw [cell_of_row _ _ _ _ _ (0, 0) h]; rfl
  obtain ⟨j, hj, _⟩ := Option.map_eq_some_iff.1 sizeBld
  clear h
  go_enter Tryd.func55, Tryd.ntmps55
  go_wp2
  rw [Lib.run_neq_ptr_same w _ Tryd.underlying72 hj]
  go_wp2
  go_end0
  exact ⟨rfl, rfl⟩
theorem cc_any {B b : Nat} {v : Value} {l : List UInt8} {w : World} (h : Bld w B b v l) : Calls Tryd.prog 55 #[.pointer (some ⟨b, 0, none⟩)] w fun e w' => e = .returned (.tuple #[]) ∧ w'.heap[b]? = some (.cells #[.pointer (some ⟨b, 0, none⟩), v] 74 (0, 0)) ∧ Bld w' B b v l ∧ Fr (fun k => k = b) w w' ∧ w'.heap.size = w.heap.size := by
  rcases h.cells with c | c
  · refine (cc_fresh b v w c).mono ?_
    rintro e w' ⟨rfl, rfl⟩
    have hf : Fr (fun k => k = b) w (w.setCell ⟨b, 0, none⟩ (.pointer (some ⟨b, 0, none⟩))) := Fr.setCell _ _ _ rfl
    have hc : (w.setCell ⟨b, 0, none⟩ (.pointer (some ⟨b, 0, none⟩))).heap[b]? = some (.cells #[.pointer (some ⟨b, 0, none⟩), v] 74 (0, 0)) := by
      have hg := (Array.getElem?_eq_some_iff.1 c).1
      have he := (Array.getElem?_eq_some_iff.1 c).2
      simp [World.setCell, hg, Array.getElem_modify, he]
    exact ⟨rfl, hc, ⟨.inr hc, hf.owns h.row (fun j e x => h.ne (by rw [e, x])), h.ne, h.ge⟩, hf, by simp [World.setCell]⟩
  · refine (cc_used b v w c).mono ?_
    rintro e w' ⟨rfl, rfl⟩
    exact ⟨rfl, c, h, Fr.refl _ _, rfl⟩
theorem slice_form {w : World} {B n : Nat} {e : TypeId} {v : Value} {xs : List Value} (h : w.ownsRow B e 1 v n xs) : ∃ a k c, v = .slice a k c := by
  rcases h.2 with ⟨rfl, _⟩ | ⟨g, cap, cur, rfl, _⟩
  · exact ⟨_, _, _, rfl⟩
  · exact ⟨_, _, _, rfl⟩
theorem own_ne {w w' : World} {B n b : Nat} {e T : TypeId} {v v' : Value} {cs : Array Value} {xs : List Value} (h : w'.ownsRow B e 1 v' n xs) (hg : w.grownBy w' v.ownBlock) (hn : v.ownBlock ≠ some b) (hb : b < w.heap.size) (hc : w.heap[b]? = some (.cells cs T (0, 0))) (hT : T ≠ e) : v'.ownBlock ≠ some b := by
  intro e1
  rcases h.2 with ⟨rfl, _⟩ | ⟨g, cap, cur, rfl, _, hg2, _⟩
  · simp [Value.ownBlock] at e1
  · have e2 : g = b := by simpa [Value.ownBlock] using e1
    subst e2
    rw [hg.block g hb (fun x => hn x.symm), hc] at hg2
    simp at hg2
    exact hT hg2.2
theorem infoByte : (Tryd.prog.info? 5).map (fun i => (i.zero, i.size, i.bytes)) = some (some (.int .u8 0), 1, 1) := by kernel_rfl
theorem info_partsB {o : Option TypeInfo} {z : Option Value} {s b : Nat} (h : o.map (fun i => (i.zero, i.size, i.bytes)) = some (z, s, b)) : ∃ i, o = some i ∧ i.zero = z ∧ i.size = s ∧ i.bytes = b := by
  cases o with
  | none => simp at h
  | some i => simp at h; exact ⟨i, rfl, h.1, h.2.1, h.2.2⟩
set_option maxRecDepth 100000 in
set_option maxHeartbeats 4000000 in
/-- More bytes. -/
theorem wr_any (B b : Nat) (v : Value) (l : List UInt8) (s : ByteArray) (w : World) (h : Bld w B b v l) (hlen : l.length + s.size ≤ 140737488355328) (hB : B ≤ w.heap.size) :
    Calls Tryd.prog 37 #[.pointer (some ⟨b, 0, none⟩), .string s] w fun e w' => e = .returned (.tuple #[.int .i64 s.size, .nilIface]) ∧ ∃ v', Bld w' B b v' (l ++ s.data.toList) ∧ Fr (fun k => k = b ∨ v.ownBlock = some k) w w' ∧ (∀ j cs T, w.heap[j]? = some (.cells cs T (0, 0)) → T ≠ 5 → v.ownBlock ≠ some j → v'.ownBlock ≠ some j) := by
  obtain ⟨i0, hi, hz0, hz1, hz2⟩ := info_partsB infoByte
  have HI := Lib.hid hi
  have HZ0 := Lib.hid hz0
  have HZ1 := Lib.hid hz1
  have HZ2 := Lib.hid hz2
  have HCC := Lib.hid (cc_any h)
  have HN := Lib.hid h.ne
  have HG := Lib.hid h.ge
  have HL := Lib.hid hlen
  have HBS := Lib.hid hB
  have HLT := Lib.hid h.lt
  clear hi hz0 hz1 hz2 h hlen hB
  go_enter Tryd.func37, Tryd.ntmps37
  go_wp2_with first
    | (go_at_call 55; (with_reducible refine HCC.out.mono ?_); rintro e w1 ⟨rfl, hc, hb, hf, hs⟩; have HB1 := Lib.hid hb; have HF1 := Lib.hid hf; have HS1 := Lib.hid hs; have HC1 := Lib.hid hc; have k1 : w1.cell? ⟨b, 1, none⟩ = some v := (by rw [cell_of_row _ _ _ _ _ (0, 0) hc]; rfl); clear hc hb hf hs)
    | (at_builtin; refine Lib.wpList_append_own_string _ rfl _ _ 55 9 rfl B 5 i0 Tryd.underlying55 Tryd.underlying9 HI.out HZ0.out HZ1.out HZ2.out v l.length (Lib.byteCells l) rfl HB1.out.row s rfl (by have := HL.out; unfold maxLen; omega) (by have := HL.out; omega) (by rw [HS1.out]; exact HBS.out) ?_; intro v' w2 hown hg _; have HO := Lib.hid hown; have HGR := Lib.hid (Fr.of_by hg); have HNE := Lib.hid (own_ne hown hg HB1.out.ne (Array.getElem?_eq_some_iff.1 HC1.out).1 HC1.out (by decide)); have HOWN := Lib.hid (fun j cs T => own_ne (b := j) (cs := cs) (T := T) hown hg); have q := slice_form hown; obtain ⟨sa, sn, sc, rfl⟩ := q; have k2 := HGR.out.cell k1 HN.out; have z2 : w2.frozen? ⟨b, 1, none⟩ = false := (HGR.out.frozen k1 HN.out).trans (by simp [World.frozen?, HC1.out]); clear hown hg)
  refine bodyPost_ret (v := .tuple #[.int .i64 s.size, .nilIface]) (by simp [results, Tryd.results37, go_sem]) rfl ⟨rfl, .slice sa sn sc, ⟨.inr ?_, ?_, ?_, HG.out⟩, ?_, ?_⟩
  · have hc : w2.heap[b]? = some (.cells #[.pointer (some ⟨b, 0, none⟩), v] 74 (0, 0)) := (HGR.out.block b (Array.getElem?_eq_some_iff.1 HC1.out).1 HN.out).trans HC1.out
    have hg := (Array.getElem?_eq_some_iff.1 hc).1
    have he := (Array.getElem?_eq_some_iff.1 hc).2
    simp [World.setCell, hg, Array.getElem_modify, he]
  · have hne : ∀ j, (Value.slice sa sn sc).ownBlock = some j → ¬ j = b := fun j e x => HNE.out (by rw [e, x])
    have := (Fr.setCell (F := fun k => k = b) w2 ⟨b, 1, none⟩ (.slice sa sn sc) rfl).owns HO.out hne
    rw [List.length_append]
    have hl : s.data.toList.length = s.size := by cases s; rfl
    rw [hl]
    have e2 : Lib.byteCells (l ++ s.data.toList) = Lib.byteCells l ++ Lib.strCells s := by simp [Lib.byteCells, Lib.strCells]
    rw [e2]
    exact this
  · exact HNE.out
  · exact ((HF1.out.mono (fun _ _ e => .inl e)).trans (HGR.out.mono (fun _ _ e => .inr e))).trans ((Fr.setCell (F := fun k => k = b) w2 ⟨b, 1, none⟩ _ rfl).mono (fun _ _ e => .inl e))
  · intro j cs T hj hT hn
    by_cases e : j = b
    · rw [e]; exact HNE.out
    · exact HOWN.out j cs T hn (by rw [HS1.out]; exact (Array.getElem?_eq_some_iff.1 hj).1) ((HF1.out.block j (Array.getElem?_eq_some_iff.1 hj).1 e).trans hj) hT
/-- The library's table of powers of ten lies where it should. -/
def TabW (w : World) : Prop := Lib.TabIs Tryd.prog w "internal/strconv.uint64pow10" .u64 Lib.pow10Tab
theorem gTab : Tryd.prog.globalNamed "internal/strconv.uint64pow10" = some 0 := by kernel_rfl
theorem TabW.lt {w : World} (h : TabW w) : 0 < w.heap.size := by
  have := h.cell gTab 0 (by decide)
  exact World.block_lt_of_cell? w _ this
theorem TabW.fr {F : Nat → Prop} {w w' : World} (h : TabW w) (hf : Fr F w w') (hn : ¬ F 0) : TabW w' := by
  have e := hf.block _ h.lt hn
  unfold TabW Lib.TabIs World.var? at *
  rw [gTab] at *
  simp only [Option.bind_some] at *
  rw [e]; exact h
theorem fr_grow (w : World) (k : Nat) (os : Array Obj) : Fr (fun _ => False) w (Go.Sort.grow (w.drewN k) os) :=
  ⟨rfl, rfl, by show w.heap.size ≤ (w.heap ++ os).size; rw [Array.size_append]; omega, fun j hj _ => by show (w.heap ++ os)[j]? = _; rw [Array.getElem?_append_left hj]⟩
theorem itoa_any (n : Int) (h0 : -9223372036854775808 ≤ n) (h1 : n ≤ 9223372036854775807) (w : World) (ht : TabW w) :
    Calls Tryd.prog 38 #[.int .i64 n] w fun e w' => e = .returned (.string ⟨(Lib.itoa n).toArray⟩) ∧ Fr (fun _ => False) w w' :=
  (Tryd.strconv_Itoa n h0 h1 w ht).mono fun e w' h => ⟨h.1, by obtain ⟨k, os, rfl⟩ := h.2; exact fr_grow w k os⟩
def numsL (l : List Int) : List UInt8 := l.flatMap fun x => 32 :: Lib.itoa x
theorem numsL_snoc (l : List Int) (x : Int) : numsL (l ++ [x]) = numsL l ++ (32 :: Lib.itoa x) := by simp [numsL]
theorem str_app (a b : List UInt8) : (ByteArray.mk a.toArray ++ ByteArray.mk b.toArray) = ByteArray.mk (a ++ b).toArray := by
  apply ByteArray.ext
  simp [ByteArray.data_append]
theorem numsL_len (l : List Int) (h : ∀ x ∈ l, -9223372036854775808 ≤ x ∧ x ≤ 9223372036854775807) : (numsL l).length ≤ 22 * l.length := by
  induction l with
  | nil => simp [numsL]
  | cons x l ih =>
    have h1 := Lib.itoa_length_le x (h x (by simp)).1 (h x (by simp)).2
    have h2 := ih (fun y hy => h y (by simp [hy]))
    have e : numsL (x :: l) = (32 :: Lib.itoa x) ++ numsL l := by simp [numsL]
    rw [e]; simp only [List.length_append, List.length_cons]; omega
/-- These numbers lie behind a slice's head. -/
def IntsAt (w : World) (a : Option Addr) (l : List Int) : Prop := ∀ k, k < l.length → ∃ g o, a = some ⟨g, o, none⟩ ∧ w.cell? ⟨g, o + k, none⟩ = some (.int .i64 (l.getD k 0))
theorem IntsAt.fr {w w' : World} {a : Option Addr} {l : List Int} (h : IntsAt w a l) (hf : Fr (fun _ => False) w w') : IntsAt w' a l := fun k hk => by
  obtain ⟨g, o, e, c⟩ := h k hk
  exact ⟨g, o, e, hf.cell c id⟩
def NumsP (l : List Int) (w : World) (e : Ending) (w' : World) : Prop := e = .returned (.string ⟨(numsL l).toArray⟩) ∧ Fr (fun _ => False) w w'
set_option maxRecDepth 100000 in
set_option maxHeartbeats 4000000 in
theorem numbers_any (a : Option Addr) (c : Nat) (l : List Int) (hl : l.length ≤ 100000) (hr : ∀ x ∈ l, -9223372036854775808 ≤ x ∧ x ≤ 9223372036854775807) (w : World) (hat : IntsAt w a l) (ht : TabW w) :
    Calls Tryd.prog 40 #[.slice a l.length c] w (NumsP l w) := by
  have HA := Lib.hid hat
  have HT := Lib.hid ht
  have HR := Lib.hid hr
  obtain ⟨n, hn⟩ : ∃ n, l.length = n := ⟨_, rfl⟩
  have HN := Lib.hid hn
  rw [hn] at hl ⊢
  clear hat ht hr hn
  go_enter Tryd.func40, Tryd.ntmps40
  go_wp2
  go_loopw [8, 5] (fun q _ wr => ∃ k : Nat, q = .int .i64 k ∧ k ≤ n ∧ Hid (Fr (fun _ => False) w wr ∧ ∃ v, Bld wr w.heap.size w.heap.size v (numsL (l.take k)))) (fun q _ _ => n - (intOf q).toNat)
  case atStart => exact ⟨0, rfl, Nat.zero_le _, Lib.hid ⟨fr_al (Fr.refl _ _) _, _, Bld.start w⟩⟩
  case round =>
    obtain ⟨k, rfl, hk, HW⟩ := hrel
    by_cases hlt : k < n
    · obtain ⟨g, o, rfl, hc⟩ := (HA.out.fr HW.out.1) k (by rw [HN.out]; exact hlt)
      have hm : l.getD k 0 ∈ l := by
        have hk' : k < l.length := by rw [HN.out]; exact hlt
        rw [List.getD_eq_getElem?_getD, List.getElem?_eq_getElem hk']; exact List.getElem_mem _
      obtain ⟨x0, x1⟩ := HR.out _ hm
      have hts : l.take (k + 1) = l.take k ++ [l.getD k 0] := by
        have hk' : k < l.length := by rw [HN.out]; exact hlt
        rw [List.take_add_one, List.getElem?_eq_getElem hk', List.getD_eq_getElem?_getD, List.getElem?_eq_getElem hk']; rfl
      have HX : Hid (numsL (l.take (k + 1)) = numsL (l.take k) ++ (32 :: Lib.itoa (l.getD k 0))) := Lib.hid (by rw [hts, numsL_snoc])
      have hnl := numsL_len (l.take k) (fun y hy => HR.out y (List.mem_of_mem_take hy))
      have hil := Lib.itoa_length_le (l.getD k 0) x0 x1
      have htl : (l.take k).length ≤ k := List.length_take_le _ _
      have HI := Lib.hid (fun W hW => itoa_any (l.getD k 0) x0 x1 W hW)
      generalize l.getD k 0 = x at *
      obtain ⟨v, hb⟩ := HW.out.2
      have HB := Lib.hid hb
      have hLN : Hid ((numsL (l.take k)).length + (ByteArray.mk (32 :: Lib.itoa x).toArray).size ≤ 140737488355328) := Lib.hid (by rw [show (ByteArray.mk (32 :: Lib.itoa x).toArray).size = (32 :: Lib.itoa x).length from rfl, List.length_cons]; omega)
      have hsz : (ByteArray.mk (Lib.itoa x).toArray).size ≤ 21 := hil
      have HSA := Lib.hid (str_app [32] (Lib.itoa x))
      generalize Lib.itoa x = ix at *
      have HTR := Lib.hid (HT.out.fr HW.out.1 id)
      have HSZ := Lib.hid HW.out.1.size
      clear hb hts hnl htl hm
      go_wp2_with first
        | (go_at_call 38; (with_reducible refine (HI.out _ HTR.out).mono ?_); rintro e w2 ⟨rfl, hf⟩; have F2 := Lib.hid hf; have HB2 := Lib.hid (HB.out.fr hf id (fun _ _ => id)); have HZ2 := Lib.hid (Nat.le_trans HSZ.out hf.size); clear hf)
        | (go_at_call 37; (refine (wr_any w.heap.size w.heap.size v (numsL (l.take k)) (ByteArray.mk (32 :: ix).toArray) w2 HB2.out hLN.out HZ2.out).mono ?_); rintro e w3 ⟨rfl, v', hb, hf, _⟩; have HB3 := Lib.hid hb; have F3 := Lib.hid hf; clear hb hf)
      go_roundw
      case rel => exact ⟨k + 1, by go_num, by omega, Lib.hid ⟨(HW.out.1.trans F2.out).trans' F3.out (fun j hj e => by
          rcases e with e | e
          · omega
          · have := (World.ownsRow.lt HB.out.row j e).1; omega), v', by rw [HX.out]; exact HB3.out⟩⟩
      case measure => simp [intOf]; omega
    · obtain rfl : k = n := by omega
      obtain ⟨v, hb⟩ := HW.out.2
      have htk : l.take k = l := by rw [← HN.out, List.take_length]
      rw [htk] at hb
      have HS := Lib.hid (str_any w.heap.size w.heap.size v (numsL l) wr hb HW.out.1.size)
      clear hb
      go_wp2_with (go_at_call 41; (with_reducible refine HS.out.mono ?_); rintro e w2 ⟨rfl, hf⟩; have F2 := Lib.hid hf; clear hf)
      go_ret
      exact ⟨rfl, HW.out.1.trans' F2.out (fun j hj e => by omega)⟩
theorem small_any (u : Nat) (hu : u < 100) (w : World) : Calls Tryd.prog 69 #[.int .u64 u, .int .i64 10] w fun e w' => e = .returned (.string ⟨(Lib.decDigits u).toArray⟩) ∧ Fr (fun _ => False) w w' := by
  have t0 : (0 : Int) ≤ u := by omega
  have t1 : (u : Int) < 100 := by omega
  have HC := Lib.hid (Tryd.internal_strconv_small u hu)
  clear hu
  go_enter Tryd.func69, Tryd.ntmps69
  go_wp2_with (go_at_call 74; (with_reducible refine (HC.out _).mono ?_); rintro e w2 ⟨rfl, rfl⟩)
  go_ret
  exact ⟨rfl, Fr.refl _ _⟩
theorem fmtu_small (u : Nat) (hu : u < 100) (w : World) : Calls Tryd.prog 57 #[.int .u64 u, .int .i64 10] w fun e w' => e = .returned (.string ⟨(Lib.decDigits u).toArray⟩) ∧ Fr (fun _ => False) w w' := by
  have HC := Lib.hid (small_any u hu)
  go_enter Tryd.func57, Tryd.ntmps57
  go_wp2_with (go_at_call 69; (with_reducible refine (HC.out _).mono ?_); rintro e w2 ⟨rfl, hf⟩; have HF := Lib.hid hf; clear hf)
  go_ret
  exact ⟨rfl, HF.out⟩
theorem frD (w : World) : Fr (fun _ => False) w w.drew := ⟨rfl, rfl, Nat.le_refl _, fun _ _ _ => rfl⟩
/-- What an instruction's box holds. -/
structure InsBox (V : World) (b : Nat) (x0 x1 x2 x3 x4 x5 x6 x7 u : Int) (a : Option Addr) (n c : Nat) (lg : Bool) (W : World) : Prop where
  fr : Fr (fun _ => False) V W
  k0 : W.cell? ⟨b, 0, none⟩ = some (.int .i64 x0)
  k1 : W.cell? ⟨b, 1, none⟩ = some (.int .i64 x1)
  k2 : W.cell? ⟨b, 2, none⟩ = some (.int .i64 x2)
  k3 : W.cell? ⟨b, 3, none⟩ = some (.int .i64 x3)
  k4 : W.cell? ⟨b, 4, none⟩ = some (.int .i64 x4)
  k5 : W.cell? ⟨b, 5, none⟩ = some (.int .i64 x5)
  k6 : W.cell? ⟨b, 6, none⟩ = some (.int .i64 x6)
  k7 : W.cell? ⟨b, 7, none⟩ = some (.int .i64 x7)
  k8 : W.cell? ⟨b, 8, none⟩ = some (.int .u32 u)
  k9 : W.cell? ⟨b, 9, none⟩ = some (.slice a n c)
theorem InsBox.keep {V W W' : World} {b : Nat} {x0 x1 x2 x3 x4 x5 x6 x7 u : Int} {a : Option Addr} {n c : Nat} {lg : Bool} (h : InsBox V b x0 x1 x2 x3 x4 x5 x6 x7 u a n c lg W) (hf : Fr (fun _ => False) W W') :
    Fr (fun _ => False) V W' ∧ W'.cell? ⟨b, 0, none⟩ = some (.int .i64 x0) ∧ W'.cell? ⟨b, 1, none⟩ = some (.int .i64 x1) ∧ W'.cell? ⟨b, 2, none⟩ = some (.int .i64 x2) ∧ W'.cell? ⟨b, 3, none⟩ = some (.int .i64 x3) ∧ W'.cell? ⟨b, 4, none⟩ = some (.int .i64 x4) ∧ W'.cell? ⟨b, 5, none⟩ = some (.int .i64 x5) ∧ W'.cell? ⟨b, 6, none⟩ = some (.int .i64 x6) ∧ W'.cell? ⟨b, 7, none⟩ = some (.int .i64 x7) ∧ W'.cell? ⟨b, 8, none⟩ = some (.int .u32 u) ∧ W'.cell? ⟨b, 9, none⟩ = some (.slice a n c) :=
  ⟨h.fr.trans hf, hf.cell h.k0 id, hf.cell h.k1 id, hf.cell h.k2 id, hf.cell h.k3 id, hf.cell h.k4 id, hf.cell h.k5 id, hf.cell h.k6 id, hf.cell h.k7 id, hf.cell h.k8 id, hf.cell h.k9 id⟩
theorem ints8 (W : World) (x0 x1 x2 x3 x4 x5 x6 x7 : Int) : IntsAt (W.alloc (.cells #[.int .i64 x0, .int .i64 x1, .int .i64 x2, .int .i64 x3, .int .i64 x4, .int .i64 x5, .int .i64 x6, .int .i64 x7] 3)) (some ⟨W.heap.size, 0, none⟩) [x0, x1, x2, x3, x4, x5, x6, x7] := by
  intro k hk
  refine ⟨W.heap.size, 0, rfl, ?_⟩
  rw [Nat.zero_add]
  refine fcell W _ _ k _ ?_
  match k, hk with
  | 0, _ | 1, _ | 2, _ | 3, _ | 4, _ | 5, _ | 6, _ | 7, _ => rfl
  | n + 8, h => simp at h; omega
def InR (x : Int) : Prop := -9223372036854775808 ≤ x ∧ x ≤ 9223372036854775807
def lineL (n1 fu n2 : List UInt8) (lg : Bool) : List UInt8 := (((n1 ++ [32]) ++ fu) ++ n2) ++ (if lg then [32, 108, 111, 103] else []) ++ [10]
set_option maxRecDepth 100000 in
set_option maxHeartbeats 4000000 in
theorem line_any (x0 x1 x2 x3 x4 x5 x6 x7 u : Int) (a : Option Addr) (c : Nat) (l : List Int) (lg : Bool) (fu : List UInt8) (hfu : fu.length ≤ 21) (hl : l.length ≤ 1000) (hr : ∀ x ∈ [x0, x1, x2, x3, x4, x5, x6, x7], InR x) (hr9 : ∀ x ∈ l, InR x) (u0 : 0 ≤ u) (u1 : u ≤ 4294967295)
    (HF : ∀ w, TabW w → Calls Tryd.prog 57 #[.int .u64 u, .int .i64 10] w fun e w' => e = .returned (.string ⟨fu.toArray⟩) ∧ Fr (fun _ => False) w w') (w : World) (hat : IntsAt w a l) (ht : TabW w) :
    Calls Tryd.prog 39 #[.agg #[.int .i64 x0, .int .i64 x1, .int .i64 x2, .int .i64 x3, .int .i64 x4, .int .i64 x5, .int .i64 x6, .int .i64 x7, .int .u32 u, .slice a l.length c, .bool lg]] w fun e w' => e = .returned (.string ⟨(lineL (numsL [x0, x1, x2, x3, x4, x5, x6, x7]) fu (numsL l) lg).toArray⟩) ∧ Fr (fun _ => False) w w' := by
  have h1 := numsL_len [x0, x1, x2, x3, x4, x5, x6, x7] hr
  have h2 := numsL_len l hr9
  have s1 : (ByteArray.mk (numsL [x0, x1, x2, x3, x4, x5, x6, x7]).toArray).size ≤ 176 := h1
  have s2 : (ByteArray.mk (numsL l).toArray).size ≤ 22000 := Nat.le_trans h2 (by omega)
  have s3 : (ByteArray.mk fu.toArray).size ≤ 21 := hfu
  have HN1 : Hid (∀ V X, TabW V → Fr (fun _ => False) (V.alloc (.cells #[.int .i64 x0, .int .i64 x1, .int .i64 x2, .int .i64 x3, .int .i64 x4, .int .i64 x5, .int .i64 x6, .int .i64 x7] 3)) X → Calls Tryd.prog 40 #[.slice (some ⟨V.heap.size, 0, none⟩) 8 8] X fun e w' => e = .returned (.string ⟨(numsL [x0, x1, x2, x3, x4, x5, x6, x7]).toArray⟩) ∧ Fr (fun _ => False) X w') :=
    Lib.hid (fun V X hW hX => numbers_any _ 8 _ (by simp) hr _ ((ints8 V x0 x1 x2 x3 x4 x5 x6 x7).fr hX) (hW.fr ((fr_al (Fr.refl (fun _ => False) _) _).trans hX) id))
  have HN2 : Hid (∀ W, Fr (fun _ => False) w W → Calls Tryd.prog 40 #[.slice a l.length c] W fun e w' => e = .returned (.string ⟨(numsL l).toArray⟩) ∧ Fr (fun _ => False) W w') :=
    Lib.hid (fun W hW => numbers_any a c l (by omega) hr9 _ (hat.fr hW) (ht.fr hW id))
  have HFU := Lib.hid HF
  have HT := Lib.hid ht
  generalize numsL [x0, x1, x2, x3, x4, x5, x6, x7] = n1 at *
  generalize numsL l = n2 at *
  obtain ⟨N1, hN1⟩ : ∃ N : ByteArray, (⟨n1.toArray⟩ : ByteArray) = N := ⟨_, rfl⟩
  obtain ⟨N2, hN2⟩ : ∃ N : ByteArray, (⟨n2.toArray⟩ : ByteArray) = N := ⟨_, rfl⟩
  obtain ⟨FU, hFU⟩ : ∃ N : ByteArray, (⟨fu.toArray⟩ : ByteArray) = N := ⟨_, rfl⟩
  have hwu : IntKind.u64.wrap u = u := IntWalk.u64_in u (by omega)
  have HA : Hid (N1 ++ (⟨#[32]⟩ : ByteArray) ++ FU ++ N2 = ⟨(((n1 ++ [32]) ++ fu) ++ n2).toArray⟩) := Lib.hid (by rw [← hN1, ← hN2, ← hFU, str_app n1 [32], str_app, str_app])
  rw [hN1] at HN1 s1
  rw [hN2] at HN2 s2
  rw [hFU] at HFU s3
  have z3 : (N1 ++ (⟨#[32]⟩ : ByteArray) ++ FU ++ N2).size ≤ 22198 := by rw [ByteArray.size_append, ByteArray.size_append, ByteArray.size_append]; show N1.size + 1 + FU.size + N2.size ≤ 22198; omega
  have b1 : (N1.size + 1 > 9223372036854775807) = False := eq_false (by omega)
  have b2 : (N1.size + 1 + FU.size > 9223372036854775807) = False := eq_false (by omega)
  have b3 : (N1.size + 1 + FU.size + N2.size > 9223372036854775807) = False := eq_false (by omega)
  have c1 : (9223372036854775807 < N1.size + 1) = False := eq_false (by omega)
  have c2 : (9223372036854775807 < N1.size + 1 + FU.size) = False := eq_false (by omega)
  have c3 : (9223372036854775807 < N1.size + 1 + FU.size + N2.size) = False := eq_false (by omega)
  clear hN1 hN2 hFU
  generalize l.length = n at *
  clear hat ht hr hr9 HF h1 h2 hfu
  go_enter Tryd.func39, Tryd.ntmps39
  go_wp2
  have HBX : Hid (∀ j y, (#[.int .i64 x0, .int .i64 x1, .int .i64 x2, .int .i64 x3, .int .i64 x4, .int .i64 x5, .int .i64 x6, .int .i64 x7, .int .u32 u, .slice a n c, .bool lg] : Array Value)[j]? = some y → (w.alloc (.cells #[.int .i64 x0, .int .i64 x1, .int .i64 x2, .int .i64 x3, .int .i64 x4, .int .i64 x5, .int .i64 x6, .int .i64 x7, .int .u32 u, .slice a n c, .bool lg] 38)).cell? ⟨w.heap.size, j, none⟩ = some y) := Lib.hid (fun j y hj => fcell w _ _ j y hj)
  have HV : Hid (Fr (fun _ => False) w (w.alloc (.cells #[.int .i64 x0, .int .i64 x1, .int .i64 x2, .int .i64 x3, .int .i64 x4, .int .i64 x5, .int .i64 x6, .int .i64 x7, .int .u32 u, .slice a n c, .bool lg] 38))) := Lib.hid (fr_al (Fr.refl _ _) _)
  generalize w.alloc (.cells #[.int .i64 x0, .int .i64 x1, .int .i64 x2, .int .i64 x3, .int .i64 x4, .int .i64 x5, .int .i64 x6, .int .i64 x7, .int .u32 u, .slice a n c, .bool lg] 38) = V at *
  generalize w.heap.size = b at *
  have HB0 : InsBox V b x0 x1 x2 x3 x4 x5 x6 x7 u a n c lg V := ⟨Fr.refl _ _, HBX.out 0 _ rfl, HBX.out 1 _ rfl, HBX.out 2 _ rfl, HBX.out 3 _ rfl, HBX.out 4 _ rfl, HBX.out 5 _ rfl, HBX.out 6 _ rfl, HBX.out 7 _ rfl, HBX.out 8 _ rfl, HBX.out 9 _ rfl⟩
  have k10 := HBX.out 10 _ rfl
  go_cut [3] (fun v wx => v = .string (N1 ++ (⟨#[32]⟩ : ByteArray) ++ FU ++ N2) ∧ Hid (Fr (fun _ => False) V wx))
  case first =>
    obtain ⟨k, k0, k1, k2, k3, k4, k5, k6, k7, k8, k9⟩ := HB0.keep (Fr.refl _ _)
    go_region_held3 (fun w' => Fr (fun _ => False) V w' ∧ w'.cell? ⟨b, 0, none⟩ = some (.int .i64 x0) ∧ w'.cell? ⟨b, 1, none⟩ = some (.int .i64 x1) ∧ w'.cell? ⟨b, 2, none⟩ = some (.int .i64 x2) ∧ w'.cell? ⟨b, 3, none⟩ = some (.int .i64 x3) ∧ w'.cell? ⟨b, 4, none⟩ = some (.int .i64 x4) ∧ w'.cell? ⟨b, 5, none⟩ = some (.int .i64 x5) ∧ w'.cell? ⟨b, 6, none⟩ = some (.int .i64 x6) ∧ w'.cell? ⟨b, 7, none⟩ = some (.int .i64 x7) ∧ w'.cell? ⟨b, 8, none⟩ = some (.int .u32 u) ∧ w'.cell? ⟨b, 9, none⟩ = some (.slice a n c))
      (first | assumption | exact HB0.keep (Fr.refl _ _) | exact HB0.keep (frD _) | exact HB0.keep (And.left (by assumption)) | exact HB0.keep (fr_al (And.left (by assumption)) _) | exact HB0.keep ((fr_al (Fr.refl _ _) _).trans (frD _)) | exact HB0.keep (fr_al (Fr.refl _ _) _) | exact HB0.keep (by assumption))
      (first
        | (go_at_call 40; first
          | ((with_reducible refine Calls.mono (HN1.out V _ (HT.out.fr HV.out id) (by first | exact frD _ | exact Fr.refl _ _)) ?_); rintro e w2 ⟨rfl, hf⟩; have hg : Fr (fun _ => False) V w2 := (by first | exact ((fr_al (Fr.refl _ _) _).trans (frD _)).trans hf | exact (fr_al (Fr.refl _ _) _).trans hf))
          | ((with_reducible refine (HN2.out _ (HV.out.trans (by first | assumption | exact And.left (by assumption)))).mono ?_); rintro e w4 ⟨rfl, hf⟩; have hg : Fr (fun _ => False) V w4 := Fr.trans (by assumption) hf))
        | (go_at_call 57; (with_reducible refine (HFU.out _ (HT.out.fr (HV.out.trans (by first | assumption | exact And.left (by assumption))) id)).mono ?_); rintro e w3 ⟨rfl, hf⟩; have hg : Fr (fun _ => False) V w3 := Fr.trans (by assumption) hf))
    all_goals
      go_wp2_with fail
      go_meet
      exact ⟨rfl, Lib.hid (by assumption)⟩
  case rest =>
    obtain ⟨rfl, HX⟩ := hcut
    have q10 := HX.out.cell k10 id
    have HSA := Lib.hid (fun a b => str_app a b)
    clear HB0
    generalize hA3 : N1 ++ (⟨#[32]⟩ : ByteArray) ++ FU ++ N2 = A3 at *
    clear hA3
    cases lg
    · go_wp2
      go_ret
      exact ⟨by rw [HA.out]; show Ending.returned (Value.string (ByteArray.mk _ ++ ByteArray.mk [10].toArray)) = _; rw [str_app]; simp [lineL], HV.out.trans HX.out⟩
    · have z4 : (A3 ++ (⟨#[32, 108, 111, 103]⟩ : ByteArray)).size ≤ 22202 := by rw [ByteArray.size_append]; show A3.size + 4 ≤ 22202; omega
      go_wp2
      go_ret
      exact ⟨by rw [HA.out]; show Ending.returned (Value.string (ByteArray.mk _ ++ ByteArray.mk [32, 108, 111, 103].toArray ++ ByteArray.mk [10].toArray)) = _; rw [str_app, str_app]; simp [lineL], HV.out.trans HX.out⟩
/-- An instruction, plainly. -/
structure Inn where
  x0 : Int
  x1 : Int
  x2 : Int
  x3 : Int
  x4 : Int
  x5 : Int
  x6 : Int
  x7 : Int
  u : Int
  args : List Int
  lg : Bool
def Inn.l8 (i : Inn) : List Int := [i.x0, i.x1, i.x2, i.x3, i.x4, i.x5, i.x6, i.x7]
/-- A block, plainly. -/
structure Bk where
  ins : List Inn
  en : Int
  a : Int
  t : Int
  el : Int
def inn0 : Inn := ⟨0, 0, 0, 0, 0, 0, 0, 0, 0, [], false⟩
def bk0 : Bk := ⟨[], 0, 0, 0, 0⟩
structure Inn.ok (i : Inn) : Prop where
  r : ∀ x ∈ i.l8, InR x
  ra : ∀ x ∈ i.args, InR x
  n : i.args.length ≤ 1000
  u0 : 0 ≤ i.u
  u1 : i.u ≤ 4294967295
structure Bk.ok (b : Bk) : Prop where
  i : ∀ x ∈ b.ins, x.ok
  n : b.ins.length ≤ 1000
  r : ∀ x ∈ [b.en, b.a, b.t, b.el], InR x
/-- An instruction's eleven cells. -/
def InsAt (w : World) (g o : Nat) (i : Inn) : Prop :=
  w.cell? ⟨g, o, none⟩ = some (.int .i64 i.x0) ∧ w.cell? ⟨g, o + 1, none⟩ = some (.int .i64 i.x1) ∧ w.cell? ⟨g, o + 2, none⟩ = some (.int .i64 i.x2) ∧ w.cell? ⟨g, o + 3, none⟩ = some (.int .i64 i.x3) ∧ w.cell? ⟨g, o + 4, none⟩ = some (.int .i64 i.x4) ∧ w.cell? ⟨g, o + 5, none⟩ = some (.int .i64 i.x5) ∧ w.cell? ⟨g, o + 6, none⟩ = some (.int .i64 i.x6) ∧ w.cell? ⟨g, o + 7, none⟩ = some (.int .i64 i.x7) ∧ w.cell? ⟨g, o + 8, none⟩ = some (.int .u32 i.u) ∧ (∃ a c, w.cell? ⟨g, o + 9, none⟩ = some (.slice a i.args.length c) ∧ IntsAt w a i.args) ∧ w.cell? ⟨g, o + 10, none⟩ = some (.bool i.lg)
theorem InsAt.fr {w w' : World} {g o : Nat} {i : Inn} (h : InsAt w g o i) (hf : Fr (fun _ => False) w w') : InsAt w' g o i := by
  obtain ⟨k0, k1, k2, k3, k4, k5, k6, k7, k8, ⟨a, c, k9, ka⟩, k10⟩ := h
  exact ⟨hf.cell k0 id, hf.cell k1 id, hf.cell k2 id, hf.cell k3 id, hf.cell k4 id, hf.cell k5 id, hf.cell k6 id, hf.cell k7 id, hf.cell k8 id, ⟨a, c, hf.cell k9 id, ka.fr hf⟩, hf.cell k10 id⟩
/-- Instructions behind a slice's head. -/
def InsL (w : World) (a : Option Addr) (l : List Inn) : Prop := ∀ k, k < l.length → ∃ g o, a = some ⟨g, o, none⟩ ∧ InsAt w g (o + k * 11) (l.getD k inn0)
theorem InsL.fr {w w' : World} {a : Option Addr} {l : List Inn} (h : InsL w a l) (hf : Fr (fun _ => False) w w') : InsL w' a l := fun k hk => by
  obtain ⟨g, o, e, c⟩ := h k hk
  exact ⟨g, o, e, c.fr hf⟩
/-- A block's five cells. -/
def BkAt (w : World) (g o : Nat) (b : Bk) : Prop :=
  (∃ a c, w.cell? ⟨g, o, none⟩ = some (.slice a b.ins.length c) ∧ InsL w a b.ins) ∧ w.cell? ⟨g, o + 1, none⟩ = some (.int .i64 b.en) ∧ w.cell? ⟨g, o + 2, none⟩ = some (.int .i64 b.a) ∧ w.cell? ⟨g, o + 3, none⟩ = some (.int .i64 b.t) ∧ w.cell? ⟨g, o + 4, none⟩ = some (.int .i64 b.el)
theorem BkAt.fr {w w' : World} {g o : Nat} {b : Bk} (h : BkAt w g o b) (hf : Fr (fun _ => False) w w') : BkAt w' g o b := by
  obtain ⟨⟨a, c, k0, ka⟩, k1, k2, k3, k4⟩ := h
  exact ⟨⟨a, c, hf.cell k0 id, ka.fr hf⟩, hf.cell k1 id, hf.cell k2 id, hf.cell k3 id, hf.cell k4 id⟩
def BkL (w : World) (a : Option Addr) (l : List Bk) : Prop := ∀ k, k < l.length → ∃ g o, a = some ⟨g, o, none⟩ ∧ BkAt w g (o + k * 5) (l.getD k bk0)
theorem BkL.fr {w w' : World} {a : Option Addr} {l : List Bk} (h : BkL w a l) (hf : Fr (fun _ => False) w w') : BkL w' a l := fun k hk => by
  obtain ⟨g, o, e, c⟩ := h k hk
  exact ⟨g, o, e, c.fr hf⟩
/-- The lines. -/
def innL (i : Inn) : List UInt8 := lineL (numsL i.l8) (Lib.decDigits i.u.toNat) (numsL i.args) i.lg
def inssL (l : List Inn) : List UInt8 := l.flatMap innL
def headL (k : Nat) : List UInt8 := ([98] ++ Lib.itoa (k : Int)) ++ [58, 10]
def tailL (b : Bk) : List UInt8 := ([32, 101, 110, 100] ++ numsL [b.en, b.a, b.t, b.el]) ++ [10]
def textL : List Bk → Nat → List UInt8
  | _, 0 => []
  | l, k + 1 => textL l k ++ headL k ++ inssL (l.getD k bk0).ins ++ tailL (l.getD k bk0)
theorem inssL_snoc (l : List Inn) (i : Inn) : inssL (l ++ [i]) = inssL l ++ innL i := by simp [inssL]
theorem decDigits_len (u : Nat) (h : u ≤ 4294967295) : (Lib.decDigits u).length ≤ 21 := by
  have := Lib.itoa_length_le (u : Int) (by omega) (by omega)
  unfold Lib.itoa at this
  rw [if_neg (by omega)] at this
  simpa using this
theorem innL_len (i : Inn) (h : i.ok) : (innL i).length ≤ 22300 := by
  have h1 := numsL_len i.l8 h.r
  have h2 := numsL_len i.args h.ra
  have h3 := decDigits_len i.u.toNat (by have := h.u1; omega)
  have h4 := h.n
  have e : i.l8.length = 8 := rfl
  unfold innL lineL
  cases i.lg <;> simp only [List.length_append, List.length_cons, List.length_nil] <;> simp <;> omega
theorem inssL_len (l : List Inn) (h : ∀ x ∈ l, x.ok) : (inssL l).length ≤ 22300 * l.length := by
  induction l with
  | nil => simp [inssL]
  | cons x l ih =>
    have h1 := innL_len x (h x (by simp))
    have h2 := ih (fun y hy => h y (by simp [hy]))
    have e : inssL (x :: l) = innL x ++ inssL l := by simp [inssL]
    rw [e]; simp only [List.length_append, List.length_cons]; omega
theorem headL_len (k : Nat) (h : k ≤ 1000) : (headL k).length ≤ 24 := by
  have := Lib.itoa_length_le (k : Int) (by omega) (by omega)
  simp [headL]; omega
theorem tailL_len (b : Bk) (h : b.ok) : (tailL b).length ≤ 93 := by
  have := numsL_len _ h.r
  simp [tailL] at *; omega
theorem getD_mem {l : List Bk} {k : Nat} (h : k < l.length) : l.getD k bk0 ∈ l := by
  rw [List.getD_eq_getElem?_getD, List.getElem?_eq_getElem h]; exact List.getElem_mem _
theorem getD_memI {l : List Inn} {k : Nat} (h : k < l.length) : l.getD k inn0 ∈ l := by
  rw [List.getD_eq_getElem?_getD, List.getElem?_eq_getElem h]; exact List.getElem_mem _
theorem textL_len (l : List Bk) (h : ∀ x ∈ l, x.ok) (k : Nat) (hk : k ≤ l.length) (hn : l.length ≤ 1000) : (textL l k).length ≤ 22301000 * k := by
  induction k with
  | zero => simp [textL]
  | succ k ih =>
    have h1 := ih (by omega)
    have hb := h _ (getD_mem (l := l) (k := k) (by omega))
    have h2 := inssL_len _ hb.i
    have h3 := hb.n
    have h4 := headL_len k (by omega)
    have h5 := tailL_len _ hb
    simp only [textL, List.length_append]; omega
theorem inn_take {l : List Inn} {k : Nat} (h : k < l.length) : l.take (k + 1) = l.take k ++ [l.getD k inn0] := by
  rw [List.take_add_one, List.getElem?_eq_getElem h, List.getD_eq_getElem?_getD, List.getElem?_eq_getElem h]; rfl
end Go.Proofs.YtdhagimcffmdfaaDoor
