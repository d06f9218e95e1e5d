/-
  Items (layer 5): the contract of words.
-/
import Derived.Test.YtnjlcimeaoedcaaQAsmU
import Derived.Test.YtnjlcimeaoedcaaQAwake
import Derived.Maps.AppendAt
namespace Go.Proofs.Ytnjlcimeaoedcaa
open Go.RowKit
set_option linter.unusedVariables false
set_option linter.unusedSimpArgs false
theorem InAt.by_ {w w' : World} {g o : Nat} {l : List In} {row : Option Nat} (h : InAt w (some ⟨g, o, none⟩) l) (hg : w.grownBy w' row) (hne : row ≠ some g) : InAt w' (some ⟨g, o, none⟩) l := fun k hk => by
  obtain ⟨g', o', e, c⟩ := h k hk
  cases e
  refine ⟨_, _, rfl, fun j hj => ?_⟩
  have h1 : ∃ x, (l.getD k in0).vals[j]? = some x := ⟨_, List.getElem?_eq_getElem (by simpa [In.vals] using hj)⟩
  obtain ⟨x, h1⟩ := h1
  rw [h1]
  exact hg.cell ((c j hj).trans h1) (fun e => hne e.symm)
theorem own_next {v v' : Value} {n g o g' o' : Nat} (h : v'.ownBlock = v.ownBlock ∨ v'.ownBlock = some n) (e : some (⟨g, o, none⟩ : Addr) = some ⟨g', o', none⟩) (hv : v.ownBlock ≠ some g) (hn : g < n) : v'.ownBlock ≠ some g' := by
  cases e
  rcases h with h | h
  · rw [h]; exact hv
  · rw [h]; intro e; injection e with e; omega
def wrds (l : List Int) : List Value := l.map (Value.int .u32)
theorem wrds_snoc (l : List Int) (x : Int) : wrds (l ++ [x]) = wrds l ++ [.int .u32 x] := by simp [wrds]
theorem wrds_get {l : List Int} {k : Nat} (h : k < l.length) : (wrds l)[k]? = some (.int .u32 (l.getD k 0)) := by
  simp [wrds, List.getD_eq_getElem?_getD, h]
/-- A slice of words, of the call's own or none at all. -/
def WrdAt (B : Nat) (w : World) (v : Value) (xs : List Int) : Prop := w.ownsRow B 35 1 v xs.length (wrds xs)
structure GroW (w wr : World) (v : Value) (xs : List Int) : Prop where
  num : WrdAt w.heap.size wr v xs
  fr : Fr (fun _ => False) w wr
theorem GroW.keep {w wr w2 : World} {v : Value} {xs : List Int} (h : GroW w wr v xs) (hf : Fr (fun _ => False) wr w2) : GroW w w2 v xs :=
  ⟨hf.owns h.num (fun _ _ => id), h.fr.trans hf⟩
theorem GroW.snoc {w wr w1 w2 : World} {v v' : Value} {xs : List Int} {x : Int} (h : GroW w wr v xs) (hf : Fr (fun _ => False) wr w1) (hv : w2.ownsRow w.heap.size 35 1 v' (xs.length + 1) (wrds xs ++ [.int .u32 x])) (hg : w1.grownBy w2 v.ownBlock) : GroW w w2 v' (xs ++ [x]) := by
  refine ⟨by unfold WrdAt; rw [wrds_snoc]; simpa using hv, ?_⟩
  refine (h.fr.trans hf).trans' (Fr.of_by hg) (fun j hj e => ?_)
  have := (World.ownsRow.lt h.num j e).1
  omega
theorem WrdAt.form {B : Nat} {w : World} {v : Value} {xs : List Int} (h : WrdAt B w v xs) : ∃ a c, v = .slice a xs.length c ∧ ∀ k, k < xs.length → ∃ g, a = some ⟨g, 0, none⟩ ∧ B ≤ g ∧ w.cell? ⟨g, k, none⟩ = some (.int .u32 (xs.getD k 0)) := by
  have hc := h
  rcases h.2 with ⟨rfl, hn⟩ | ⟨g, cap, cur, rfl, hb, _⟩
  · exact ⟨none, 0, by rw [hn], fun k hk => by omega⟩
  · refine ⟨some ⟨g, 0, none⟩, cap, rfl, fun k hk => ⟨g, rfl, hb, ?_⟩⟩
    have := World.ownsRow.cells hc (g := g) rfl k _ (wrds_get hk)
    rw [Addr.add_lit] at this
    simpa using this
theorem WrdAt.mono {B C : Nat} {w : World} {v : Value} {xs : List Int} (h : WrdAt B w v xs) (hc : C ≤ B) : WrdAt C w v xs := by
  refine ⟨h.1, ?_⟩
  rcases h.2 with h | ⟨g, cap, cur, e, hb, rest⟩
  · exact .inl h
  · exact .inr ⟨g, cap, cur, e, by omega, rest⟩
/-- What words leaves. -/
def WordsP (r : Option (List Int)) (w : World) (e : Ending) (w' : World) : Prop :=
  Fr (fun _ => False) w w' ∧ match r with
    | some ws => ∃ v, e = .returned (.tuple #[v, .int .i64 0]) ∧ WrdAt w.heap.size w' v ws
    | none => e = .returned (.tuple #[.slice none 0 0, .int .i64 7])
theorem words_none {l : List It} {goals : List Int} {F : Nat → Bool} {k : Nat} : ∀ {j : Nat}, k ≤ j → wordsK l goals F k = none → wordsK l goals F j = none := by
  intro j h
  induction h with
  | refl => exact id
  | step _ ih =>
    intro hh
    unfold wordsK
    rw [ih hh]
/-- The instructions' words, so far. -/
def encT (L : List In) (j : Nat) : List Int := (L.take j).map encI
theorem encT_succ {L : List In} {j : Nat} (h : j < L.length) : encT L (j + 1) = encT L j ++ [encI (L.getD j in0)] := by
  unfold encT
  rw [List.take_succ_eq_append_getElem h, List.map_append, List.getD_eq_getElem?_getD, List.getElem?_eq_getElem h]; rfl
theorem encT_end (L : List In) : encT L L.length = L.map encI := by unfold encT; rw [List.take_length]
theorem encT_len (L : List In) (j : Nat) : (encT L j).length ≤ L.length := by unfold encT; simp; omega
theorem insK_len {l : List It} {goals : List Int} {F : Nat → Bool} {k : Nat} {L : List In} (h : insK l goals F k = some L) : L.length ≤ 2 := by
  unfold insK at h
  simp only at h
  have := numI_len (l.getD k it0).rd (l.getD k it0).imm
  repeat' split at h
  all_goals first | (cases h; simp; done) | (cases h; omega) | cases h
theorem wordsK_len {l : List It} {goals : List Int} {F : Nat → Bool} : ∀ {k : Nat} {ws : List Int}, wordsK l goals F k = some ws → ws.length ≤ 2 * k
  | 0, ws, h => by unfold wordsK at h; cases h; simp
  | k + 1, ws, h => by
    unfold wordsK at h
    cases h1 : wordsK l goals F k with
    | none => rw [h1] at h; cases h
    | some ws1 =>
      cases h2 : insK l goals F k with
      | none => rw [h1, h2] at h; cases h
      | some L =>
        rw [h1, h2] at h
        cases h
        have := wordsK_len h1
        have := insK_len h2
        simp; omega
theorem wordsK_succ {l : List It} {goals : List Int} {F : Nat → Bool} {k : Nat} {ws : List Int} {L : List In} (h1 : wordsK l goals F k = some ws) (h2 : insK l goals F k = some L) : wordsK l goals F (k + 1) = some (ws ++ L.map encI) := by
  unfold wordsK; rw [h1, h2]
theorem wordsK_fail {l : List It} {goals : List Int} {F : Nat → Bool} {k : Nat} {ws : List Int} (h1 : wordsK l goals F k = some ws) (h2 : insK l goals F k = none) : wordsK l goals F (k + 1) = none := by
  unfold wordsK; rw [h1, h2]
theorem infoU : (Try.prog.info? 35).map (fun i => (i.zero, i.size, i.bytes)) = some (some (.int .u32 0), 1, 4) := by kernel_rfl
theorem enc_call (i : In) (h : fitI i = true) : Hid (∀ w, Calls Try.prog 45 #[.agg #[.int .i64 i.op, .int .i64 i.rd, .int .i64 i.r1, .int .i64 i.r2, .int .i64 i.imm]] w fun e w' => e = .returned (.tuple #[.int .u32 (encI i), .int .i64 0]) ∧ Grown w w') :=
  Lib.hid (fun w => c45_yes i.op i.rd i.r1 i.r2 i.imm w h)
set_option maxRecDepth 100000 in
set_option maxHeartbeats 8000000 in
theorem c22 (l : List It) (goals : List Int) (F : Nat → Bool) (a : Option Addr) (c gg gs ga n : Nat) (w : World) (hp : PlW l goals F a gg gs ga n w)
    (hins : ∀ w3, PlW l goals F a gg gs ga n w3 → ∀ k, k < n → Calls Try.prog 44 #[.agg #[.slice a n c, .slice (some ⟨gg, 0, none⟩) n n, .slice (some ⟨gs, 0, none⟩) n n, .slice (some ⟨ga, 0, none⟩) n n], .int .i64 k] w3 (InsE (insK l goals F k) w3))
    (hfits : ∀ k, k < n → ∀ L, insK l goals F k = some L → ∀ i ∈ L, fitI i = true) :
    Calls Try.prog 22 #[.agg #[.slice a n c, .slice (some ⟨gg, 0, none⟩) n n, .slice (some ⟨gs, 0, none⟩) n n, .slice (some ⟨ga, 0, none⟩) n n]] w (WordsP (wordsK l goals F n) w) := by
  obtain ⟨i0, hi, hz0, hz1, hz2⟩ := info_parts infoU
  have HI := Lib.hid hi
  have HZ0 := Lib.hid hz0
  have HZ1 := Lib.hid hz1
  have HZ2 := Lib.hid hz2
  clear hi hz0 hz1 hz2
  have hfew := hp.few
  have HP := Lib.hid hp
  have HINS := Lib.hid hins
  have HFITS := Lib.hid hfits
  have F0 := Lib.hid (fr_al (Fr.refl (fun _ => False) w) (.cells #[.slice a n c, .slice (some ⟨gg, 0, none⟩) n n, .slice (some ⟨gs, 0, none⟩) n n, .slice (some ⟨ga, 0, none⟩) n n] 58))
  have E : Hid (∀ (j : Nat) (x : Value), (#[.slice a n c, .slice (some ⟨gg, 0, none⟩) n n, .slice (some ⟨gs, 0, none⟩) n n, .slice (some ⟨ga, 0, none⟩) n n] : Array Value)[j]? = some x → (w.alloc (.cells #[.slice a n c, .slice (some ⟨gg, 0, none⟩) n n, .slice (some ⟨gs, 0, none⟩) n n, .slice (some ⟨ga, 0, none⟩) n n] 58)).cell? ⟨w.heap.size, j, none⟩ = some x) := Lib.hid (fun j x h => fcell w _ _ j x h)
  have HWW : Hid (w.heap.size ≤ (w.alloc (.cells #[.slice a n c, .slice (some ⟨gg, 0, none⟩) n n, .slice (some ⟨gs, 0, none⟩) n n, .slice (some ⟨ga, 0, none⟩) n n] 58)).heap.size) := Lib.hid (Nat.le_of_lt (alloc_lt _ _))
  have H0 : Hid (GroW (w.alloc (.cells #[.slice a n c, .slice (some ⟨gg, 0, none⟩) n n, .slice (some ⟨gs, 0, none⟩) n n, .slice (some ⟨ga, 0, none⟩) n n] 58)) (w.alloc (.cells #[.slice a n c, .slice (some ⟨gg, 0, none⟩) n n, .slice (some ⟨gs, 0, none⟩) n n, .slice (some ⟨ga, 0, none⟩) n n] 58)) (.slice none 0 0) []) := Lib.hid ⟨World.ownsRow_nil _ _ _ _, Fr.refl _ _⟩
  clear hp hins hfits
  go_enter Try.func22, Try.ntmps22
  go_wp2
  generalize w.alloc (.cells #[.slice a n c, .slice (some ⟨gg, 0, none⟩) n n, .slice (some ⟨gs, 0, none⟩) n n, .slice (some ⟨ga, 0, none⟩) n n] 58) = W at *
  go_loopw [4, 15] (fun v i wr => ∃ (k : Nat) (ws : List Int), i = .int .i64 k ∧ k ≤ n ∧ Hid (wordsK l goals F k = some ws ∧ GroW W wr v ws)) (fun _ i _ => n - (intOf i).toNat)
  case atStart => exact ⟨0, [], rfl, Nat.zero_le _, Lib.hid ⟨rfl, H0.out⟩⟩
  case round =>
    obtain ⟨k, ws, rfl, hk, HW⟩ := hrel
    clear H0
    by_cases hlt : k < n
    · have e0 := HW.out.2.fr.cell (E.out 0 _ rfl) id
      have e1 := HW.out.2.fr.cell (E.out 1 _ rfl) id
      have e2 := HW.out.2.fr.cell (E.out 2 _ rfl) id
      have e3 := HW.out.2.fr.cell (E.out 3 _ rfl) id
      have HC := Lib.hid (HINS.out wr (HP.out.fr (F0.out.trans HW.out.2.fr)) k hlt)
      have hwl := wordsK_len HW.out.1
      cases hL : insK l goals F k with
      | none =>
        rw [hL] at HC
        have HFIN : Hid (wordsK l goals F n = none) := Lib.hid (words_none (k := k + 1) (by omega) (wordsK_fail HW.out.1 hL))
        clear hL
        go_wp2_with (go_at_call 44; (with_reducible refine (HC.out).mono ?_); rintro e w3 ⟨hf, v3, rfl⟩; have HF3 := Lib.hid hf; clear hf)
        go_ret2
        rw [HFIN.out]
        exact ⟨F0.out.trans (HW.out.2.fr.trans HF3.out), rfl⟩
      | some L =>
        rw [hL] at HC
        have HLL := Lib.hid hL
        have HFT := Lib.hid (HFITS.out k hlt L hL)
        have hll := insK_len hL
        clear hL
        obtain ⟨wo, hwo⟩ : ∃ wo : World, wo = wr := ⟨_, rfl⟩
        subst hwo
        go_wp2_with (go_at_call 44; (with_reducible refine (HC.out).mono ?_); rintro e w3 ⟨hf, a3, c3, rfl, hin, hbd⟩; have HF3 := Lib.hid hf; have HIN := Lib.hid hin; have HBD := Lib.hid hbd; clear hf hin hbd)
        go_loopw [4, 29] (fun v i wi => ∃ j : Nat, i = .int .i64 j ∧ j ≤ L.length ∧ Hid (GroW W wi v (ws ++ encT L j) ∧ InAt wi a3 L ∧ ∀ g o, a3 = some ⟨g, o, none⟩ → v.ownBlock ≠ some g)) (fun _ i _ => L.length - (intOf i).toNat)
        case atStart => exact ⟨0, rfl, Nat.zero_le _, Lib.hid ⟨by have := HW.out.2.keep HF3.out; simpa [encT] using this, HIN.out, fun g o e1 e2 => by have := HBD.out g o e1; have := (World.ownsRow.lt HW.out.2.num g e2).2; omega⟩⟩
        case round =>
          obtain ⟨j, rfl, hj, HR⟩ := hrel
          by_cases hjl : j < L.length
          · obtain ⟨i, hi⟩ : ∃ i, L.getD j in0 = i := ⟨_, rfl⟩
            obtain ⟨g, o, hag, d0, d1, d2, d3, d4⟩ := HR.out.2.1.get (Fr.refl _ _) j hjl i hi
            subst hag
            have HEN := enc_call i (HFT.out i (by rw [← hi, List.getD_eq_getElem?_getD, List.getElem?_eq_getElem hjl]; exact List.getElem_mem _))
            have HSN : Hid (ws ++ encT L (j + 1) = (ws ++ encT L j) ++ [encI i]) := Lib.hid (by rw [encT_succ hjl, hi, List.append_assoc])
            have hel := encT_len L j
            have hlen : (ws ++ encT L j).length ≤ 2 * k + 2 := by simp; omega
            have hsw := HR.out.1.fr.size
            have hgl : g < wr.heap.size := World.block_lt_of_cell? wr _ d0
            have hgne : Hid (∀ q : Value, True) := Lib.hid (fun _ => trivial)
            clear hgne
            have F1 : Hid (Fr (fun _ => False) wr (wr.alloc (.cells #[.int .i64 i.op, .int .i64 i.rd, .int .i64 i.r1, .int .i64 i.r2, .int .i64 i.imm] 38))) := Lib.hid (fr_al (Fr.refl _ _) _)
            clear hi
            go_wp2_with (first
              | (go_at_call 45; (with_reducible refine (HEN.out _).mono ?_); rintro e w4 ⟨rfl, hg⟩; have HF4 : Hid (Fr (fun _ => False) wr w4) := Lib.hid (F1.out.trans (Fr.of_grown hg)); have hs4 := HF4.out.size; clear hg)
              | (at_builtin; refine wpList_append_own_at _ rfl _ _ 25 rfl W.heap.size 35 i0 (.int .u32 0) 1 4 Try.underlying25 HI.out HZ0.out HZ1.out HZ2.out rfl (by decide) _ (ws ++ encT L j).length (wrds (ws ++ encT L j)) rfl (by exact (HF4.out.owns HR.out.1.num (fun _ _ => id)).alloc _) ⟨w4.heap.size, 0, none⟩ 1 1 [.int .u32 (encI i)] rfl rfl (one_cell w4 35 (.int .u32 (encI i))) (by simp [Value.oneCell']) (by unfold maxLen; omega) (by omega) (by simp; omega) ?_; intro v' w5 hown5 hg5 _ hat5; have HR5 : Hid (GroW W w5 v' ((ws ++ encT L j) ++ [encI i]) ∧ InAt w5 (some ⟨g, o, none⟩) L ∧ ∀ g' o', some (⟨g, o, none⟩ : Addr) = some ⟨g', o', none⟩ → v'.ownBlock ≠ some g') := Lib.hid ⟨GroW.snoc HR.out.1 (fr_al HF4.out _) hown5 hg5, InAt.by_ (HR.out.2.1.fr (fr_al HF4.out _)) hg5 (HR.out.2.2 g o rfl), fun g' o' e1 => own_next hat5 e1 (HR.out.2.2 g o rfl) (by simp; omega)⟩; clear hown5 hg5 hat5))
            go_roundw
            case rel => exact ⟨j + 1, by go_num, by omega, by rw [HSN.out]; exact HR5⟩
            case measure => simp [intOf]; omega
          · have hjL : j = L.length := by omega
            have HSN : Hid (wordsK l goals F (k + 1) = some (ws ++ encT L j)) := Lib.hid (by rw [hjL, encT_end]; exact wordsK_succ HW.out.1 HLL.out)
            clear hjL
            go_wp2
            go_roundw
            case rel => exact ⟨k + 1, _, by go_num, by omega, Lib.hid ⟨HSN.out, HR.out.1⟩⟩
            case measure => simp [intOf]; omega
    · obtain rfl : n = k := by omega
      go_wp2
      go_ret2
      rw [HW.out.1]
      exact ⟨F0.out.trans HW.out.2.fr, _, rfl, HW.out.2.num.mono HWW.out⟩
end Go.Proofs.Ytnjlcimeaoedcaa
