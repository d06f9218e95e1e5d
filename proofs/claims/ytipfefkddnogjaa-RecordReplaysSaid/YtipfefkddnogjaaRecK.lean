/-
  The contracts of the document's own First and of the law's Ref (layer 4).
-/
import Derived.Test.YtipfefkddnogjaaRecJ
namespace Go.Proofs.Ytipfefkddnogjaa
open Go.RowKit Go.Maps
set_option linter.unusedVariables false
set_option linter.unusedSimpArgs false

theorem valN_firsts (m : List Rc) (s : Int) : hasN m s = true → valN (firsts m) s = valN m s := by
  refine snoc_ind (P := fun m => hasN m s = true → valN (firsts m) s = valN m s) (fun h => by simp [hasN] at h) (fun m r ih h => ?_) m
  rw [firsts_snoc]
  by_cases hm : hasN m s = true
  · rw [valN_snoc_other hm]
    have hf : hasN (firsts m) s = true := by rw [hasN_firsts]; exact hm
    unfold stepF
    split
    · exact ih hm
    · rw [valN_snoc_other hf]; exact ih hm
  · have hm' : hasN m s = false := by simpa using hm
    rw [hasN_append, hm'] at h
    have e : r.1 = s := by simpa [hasN] using h
    subst e
    have hf : hasN (firsts m) r.1 = false := by rw [hasN_firsts]; exact hm'
    rw [valN_snoc_same hm']
    unfold stepF
    rw [if_neg (by rw [hf]; simp), valN_snoc_same hf]
theorem valN_first {l : List Rc} {k j : Nat} {s : Int} (hk : k ≤ l.length) (hj : j < k) (e : (l.getD j (0, 0)).1 = s) (hb : ∀ i, i < j → (l.getD i (0, 0)).1 ≠ s) : valN (l.take k) s = (l.getD j (0, 0)).2 := by
  unfold valN
  have hf : (l.take k).find? (fun q => q.1 == s) = some (l.getD j (0, 0)) := by
    rw [List.find?_eq_some_iff_getElem]
    have h1 : j < l.length := by omega
    refine ⟨by simpa using e, j, by rw [List.length_take]; omega, ?_, fun i hi => ?_⟩
    · rw [List.getElem_take, List.getD_eq_getElem?_getD, List.getElem?_eq_getElem h1]; rfl
    · have h2 : i < l.length := by omega
      have := hb i hi
      rw [List.getD_eq_getElem?_getD, List.getElem?_eq_getElem h2] at this
      rw [List.getElem_take]
      simpa using this
  rw [hf]; rfl
structure RowRel (w wr : World) (l : List Rc) (k : Nat) (v : Value) : Prop where
  row : wr.ownsRow w.heap.size 63 2 v l.length (recCells l)
  by_ : w.grownBy wr none
theorem row_ge {w wr : World} {t sz n : Nat} {v : Value} {xs : List Value} (h : wr.ownsRow w.heap.size t sz v n xs) : ∀ j, v.ownBlock = some j → w.heap.size ≤ j ∨ (none : Option Nat) = some j := fun j e => Or.inl (h.lt j e).1
theorem own_by {w w' : World} {base t sz n : Nat} {v : Value} {xs : List Value} (h : w.ownsRow base t sz v n xs) (hg : w.grownBy w' none) : w'.ownsRow base t sz v n xs := h.kept hg (by cases hv : v.ownBlock <;> simp)
theorem row_new {w w1 w3 : World} {acc : List Rc} {k : Nat} {v v' : Value} {r : Rc} {X : Array Value} (hby : w.grownBy w1 none) (hrow : w1.ownsRow w.heap.size 63 2 v acc.length (recCells acc))
    (h3 : w3.ownsRow w.heap.size 63 2 v' (acc.length + 1) (recCells acc ++ [.int .u32 r.1, .int .u32 r.2])) (hg3 : (w1.alloc (.cells X 63)).grownBy w3 v.ownBlock) : RowRel w w3 (acc ++ [r]) (k + 1) v' :=
  ⟨by rw [recCells_snoc]; simpa using h3, (by_alloc hby _).andThen hg3 (row_ge hrow)⟩
set_option maxRecDepth 100000 in
set_option maxHeartbeats 8000000 in
theorem c31 (a : Option Addr) (c : Nat) (l : List Rc) (hl : l.length < 1000000) (w : World) (hat : RecAt w a l) :
    Calls Try.prog 31 #[.slice a l.length c] w (FirstP l w) := by
  obtain ⟨i63, hi, hz0, hz1, hz2⟩ := info_parts info63
  have HI := Lib.hid hi
  have HZ0 := Lib.hid hz0
  have HZ1 := Lib.hid hz1
  have HZ2 := Lib.hid hz2
  have HA := Lib.hid hat
  clear hat hi hz0 hz1 hz2
  have H0 : Hid (RowRel w w (firsts (l.take 0)) 0 (.slice none 0 0)) := Lib.hid ⟨World.ownsRow_nil _ _ _ _, by_refl _⟩
  go_enter Try.func31, Try.ntmps31
  go_wp2
  go_loopw [3, 4] (fun v i wr => ∃ k : Nat, k ≤ l.length ∧ i = .int .i64 k ∧ Hid (RowRel w wr (firsts (l.take k)) k v)) (fun _ i _ => l.length - (intOf i).toNat)
  case atStart => exact ⟨0, by omega, rfl, H0⟩
  case round =>
    obtain ⟨k, hk, rfl, HW⟩ := hrel
    clear H0
    by_cases hlt : k < l.length
    · have hW := HW.out
      have hRA := recAt_by HA.out hW.by_
      obtain ⟨b, o, rfl, c0, c1⟩ := hRA k hlt
      have K63 := Lib.hid (fun w (h : RecAt w (some ⟨b, o, none⟩) l) => c63 (some ⟨b, o, none⟩) c l hl k hlt w h)
      have hts := take_snoc hlt
      have hlen : (firsts (l.take k)).length < 1000000 := by have := length_firsts (l.take k); have := List.length_take_le k l; omega
      have F1 : Hid (firsts (l.take (k + 1)) = stepF (firsts (l.take k)) (l.getD k (0, 0))) := Lib.hid (by rw [hts, firsts_snoc])
      have N1 := fun h => ahd_neg (l := l) (k := k) hlt h
      have N2 := fun h => ahd_pos (l := l) (k := k) hlt h
      have hrow := Lib.hid hW.row
      have hby := Lib.hid hW.by_
      have HRA := Lib.hid hRA
      have C0 := Lib.hid c0
      have C1 := Lib.hid c1
      clear hts hW HW hRA c0 c1
      have h1 : (k : Int) < l.length := by omega
      have h2 : (0 : Int) ≤ k := by omega
      generalize firsts (l.take k) = acc at *
      cases hn : hasN acc (l.getD k (0, 0)).1
      · have e := N1 hn
        rw [e] at K63
        have HN := Lib.hid hn
        clear N1 N2 hn e
        generalize l.getD k (0, 0) = r at *
        have HS : Hid (stepF acc r = acc ++ [r]) := Lib.hid (by unfold stepF; rw [if_neg (by rw [HN.out]; simp)])
        go_wp2_with (first
          | (go_at_call 63; (with_reducible refine (K63.out _ (by exact HRA.out)).mono ?_); rintro e w1 ⟨rfl, hg⟩
             have HG := Lib.hid (hby.out.trans hg)
             have HR1 := Lib.hid (own_by hrow.out hg)
             have z0 := hg.cell C0.out (by simp)
             have z1 := hg.cell C1.out (by simp)
             clear hg)
          | (at_builtin; refine wpList_append_own _ rfl _ _ 54 rfl w.heap.size 63 i63 (.agg #[.int .u32 0, .int .u32 0]) 2 8 Try.underlying54 HI.out HZ0.out HZ1.out HZ2.out rfl (by decide) _ acc.length (recCells acc) rfl (by exact HR1.out.alloc _) ⟨w1.heap.size, 0, none⟩ 1 1 [.int .u32 r.1, .int .u32 r.2] rfl rfl (news_cell w1 63 (.int .u32 r.1) (.int .u32 r.2)) (by simp [Value.oneCell']) (by unfold maxLen; omega) (by omega) (by have := HG.out.size; simp; omega) ?_
             intro v' w3 hown3 hg3 _
             have HR3 : Hid (RowRel w w3 (firsts (l.take (k + 1))) (k + 1) v') := Lib.hid (by rw [F1.out, HS.out]; exact row_new HG.out HR1.out hown3 hg3)
             clear hown3 hg3))
        go_roundw
        case rel => exact ⟨k + 1, by omega, by go_num, HR3⟩
        case measure => simp [intOf]; omega
      · obtain ⟨j, hj, e, _, _⟩ := N2 hn
        rw [e] at K63
        have HN := Lib.hid hn
        clear N1 N2 hn e
        generalize l.getD k (0, 0) = r at *
        have HS : Hid (stepF acc r = acc) := Lib.hid (by unfold stepF; rw [if_pos HN.out])
        go_wp2_with (first
          | (go_at_call 63; (with_reducible refine (K63.out _ (by exact HRA.out)).mono ?_); rintro e w1 ⟨rfl, hg⟩
             have HG := Lib.hid (hby.out.trans hg)
             have HR1 := Lib.hid (own_by hrow.out hg)
             have z0 := hg.cell C0.out (by simp)
             have z1 := hg.cell C1.out (by simp)
             clear hg))
        go_roundw
        case rel => exact ⟨k + 1, by omega, by go_num, Lib.hid (by rw [F1.out, HS.out]; exact ⟨HR1.out, HG.out⟩)⟩
        case measure => simp [intOf]; omega
    · have hk4 : k = l.length := by omega
      subst hk4
      go_wp2
      go_ret
      have hW := HW.out
      exact firstP_ret (by have := hW.row; rwa [List.take_length] at this) hW.by_
end Go.Proofs.Ytipfefkddnogjaa
