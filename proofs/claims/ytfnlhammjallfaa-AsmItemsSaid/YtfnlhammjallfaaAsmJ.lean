/-
  Items (layer 5): the contract of define.
-/
import Derived.Test.YtfnlhammjallfaaAsmF
namespace Go.Proofs.Ytfnlhammjallfaa
open Go.RowKit Go.Maps
set_option linter.unusedVariables false
set_option linter.unusedSimpArgs false
/-- What define leaves. -/
def DefP (l : List It) (w : World) (e : Ending) (w' : World) : Prop :=
  Fr (fun _ => False) w w' ∧ if twiceK l l.length = true then e = .returned (.tuple #[.map none, .int .i64 6]) else ∃ B, e = .returned (.tuple #[.map (some B), .int .i64 0]) ∧ w.heap.size ≤ B ∧ ownsL w' B (labsK l l.length)
theorem twice_mono {l : List It} : ∀ {k j : Nat}, k ≤ j → twiceK l k = true → twiceK l j = true := by
  intro k j h
  induction h with
  | refl => exact id
  | step _ ih => intro hh; show (twiceK l _ || _) = true; rw [ih hh]; rfl
theorem defP_no {l : List It} {w w' : World} {k : Nat} (hk : k ≤ l.length) (h : twiceK l k = true) (hf : Fr (fun _ => False) w w') : DefP l w (.returned (.tuple #[.map none, .int .i64 6])) w' :=
  ⟨hf, by rw [if_pos (twice_mono hk h)]⟩
theorem defP_yes {l : List It} {w w' : World} {B : Nat} (h : twiceK l l.length = false) (hf : Fr (fun _ => False) w w') (hB : w.heap.size ≤ B) (ho : ownsL w' B (labsK l l.length)) : DefP l w (.returned (.tuple #[.map (some B), .int .i64 0])) w' :=
  ⟨hf, by rw [if_neg (by rw [h]; decide)]; exact ⟨B, rfl, hB, ho⟩⟩
/-- Between rounds. -/
structure DfR (l : List It) (w wr : World) (k : Nat) : Prop where
  once : twiceK l k = false
  map : ownsL wr w.heap.size (labsK l k)
  fr : Fr (fun _ => False) w wr
theorem DfR.keep {l : List It} {w wr w2 : World} {k : Nat} (h : DfR l w wr k) (hf : wr.grownBy w2 none) (h1 : twiceK l (k + 1) = false) (h2 : labsK l (k + 1) = labsK l k) : DfR l w w2 (k + 1) :=
  ⟨h1, by rw [h2]; exact h.map.kept hf (by simp), h.fr.trans (Fr.of_by0 hf)⟩
theorem DfR.snoc {l : List It} {w wr w2 : World} {k : Nat} {n : Int} (h : DfR l w wr k) (h1 : twiceK l (k + 1) = false) (h2 : labsK l (k + 1) = labsK l k ++ [(n, k)]) (c : Array Value) (t : TypeId)
    (hm : w2.ownsMap Try.prog 3 (plainElem Try.prog 3) w.heap.size ((labsK l k).length + 1) ((mapL (labsK l k)).put (.int .i64 n) (natD k))) (hg : (wr.alloc (.cells c t)).grownBy w2 (some w.heap.size)) : DfR l w w2 (k + 1) := by
  refine ⟨h1, ?_, ?_⟩
  · unfold ownsL; rw [h2, mapL_snoc]; simpa using hm
  · refine (fr_al h.fr (.cells c t)).trans' (Fr.of_by hg) (fun j hj e => ?_)
    injection e with e
    omega
def lookP (acc : List (Int × Nat)) (s : Int) (c : Int) (b : Bool) : Prop := b = hasL acc s ∧ (b = true → c = (valL acc s : Nat))
theorem look_k {acc : List (Int × Nat)} (ha : ApartL acc) {s c : Int} (h : (mapL acc).atKey (.int .i64 s) (.lit (.int .i64 0)) = .lit (.int .i64 c)) (hs : hasL acc s = true) : c = ((valL acc s : Nat) : Int) := by
  rw [at_mapL ha hs] at h
  unfold natD at h
  injection h with h
  injection h with _ h
  exact h.symm
set_option maxRecDepth 100000 in
set_option maxHeartbeats 8000000 in
theorem c32 (a : Option Addr) (n c : Nat) (l : List It) (hn : n = l.length) (hfew : n ≤ 32768) (hlab : ∀ k, k < l.length → (l.getD k it0).k = 2 → labB (l.getD k it0).lab = true) (w : World) (hat : ItAt w.heap.size w a l) :
    Calls Try.prog 32 #[.slice a n c] w (DefP l w) := by
  have HA := Lib.hid hat
  have HN := Lib.hid hn
  have HL := Lib.hid hlab
  clear hat hn hlab
  have hmm := @run_makeMap Try.prog
  have H0 : Hid (DfR l w (w.alloc (.map #[] 0)) 0) := Lib.hid ⟨rfl, World.ownsMap_made _ _ _ _, fr_al (Fr.refl _ _) _⟩
  go_enter Try.func32, Try.ntmps32
  go_wp2
  go_loopw [12] (fun i wr => ∃ k : Nat, i = .int .i64 k ∧ k ≤ n ∧ Hid (DfR l w wr k)) (fun i _ => n - (intOf i).toNat)
  case atStart => exact ⟨0, rfl, Nat.zero_le _, H0⟩
  case round =>
    obtain ⟨k, rfl, hk, HW⟩ := hrel
    clear H0 hmm
    by_cases hlt : k < n
    · obtain ⟨x, hx⟩ : ∃ x, l.getD k it0 = x := ⟨_, rfl⟩
      obtain ⟨g, o, rfl, hg, c0, c1, c2, c3, c4, c5, c6⟩ := HA.out.get HW.out.fr (fun _ h => h.elim) k (by rw [← HN.out]; exact hlt) x hx
      have hlk := HL.out k (by rw [← HN.out]; exact hlt)
      rw [hx] at hlk
      have hone := HW.out.once
      have hlen := labsK_len l k
      have hB := HW.out.map.lt
      by_cases e : x.k = 2
      · have hlb := hlk e
        unfold labB at hlb
        simp only [Bool.and_eq_true, decide_eq_true_eq] at hlb
        obtain ⟨l0, l1⟩ := hlb
        have HK := Lib.hid (keyOf_int_mk Try.underlying3 (wfI (a := x.lab) (by omega) (by omega)))
        cases hh : hasL (labsK l k) x.lab
        · have h1 : Hid (twiceK l (k + 1) = false) := Lib.hid (by unfold twiceK; rw [hone, hx, hh]; simp)
          have h2 : Hid (labsK l (k + 1) = labsK l k ++ [(x.lab, k)]) := Lib.hid (by show (if _ then _ else _) = _; rw [hx, if_pos e])
          have hhas : Maps.has (mapL (labsK l k)) (.int .i64 x.lab) = false := by rw [has_mapL]; exact hh
          rw [e] at c0
          clear e hx hlk hh hone
          go_wp2_with (first
            | (at_lookup; refine wpList_lookup_own_ok_int _ rfl _ _ 65 rfl 3 3 .i64 lawI Try.underlying65 Try.underlying3 (zeroI _) w.heap.size _ (mapL (labsK l k)) rfl (by exact HW.out.map.alloc _) (.int .i64 x.lab) _ rfl HK.out ?_; intro c hat hwc; rw [hhas]; clear hat hwc)
            | (at_mapUpdate; refine wpList_mapUpdate_own _ rfl _ _ _ 65 rfl 3 3 lawI Try.underlying65 _ w.heap.size (labsK l k).length (mapL (labsK l k)) rfl (by exact HW.out.map.alloc _) (by unfold maxLen; omega) (.int .i64 x.lab) (.int .i64 (k : Int)) _ rfl rfl HK.out (natD k) [] (plainElem_int Try.underlying3 (wfI (by omega) (by omega))) ?_; intro w1 hown1 hgrow1; have HR := Lib.hid (DfR.snoc HW.out h1.out h2.out _ _ hown1 hgrow1); clear hown1 hgrow1))
          go_roundw
          case rel => exact ⟨k + 1, by go_num, by omega, HR⟩
          case measure => simp [intOf]; omega
        · have h1 : Hid (twiceK l (k + 1) = true) := Lib.hid (by unfold twiceK; rw [hx, hh, e]; simp)
          have hhas : Maps.has (mapL (labsK l k)) (.int .i64 x.lab) = true := by rw [has_mapL]; exact hh
          rw [e] at c0
          clear e hx hlk hh hone
          go_wp2_with (first
            | (at_lookup; refine wpList_lookup_own_ok_int _ rfl _ _ 65 rfl 3 3 .i64 lawI Try.underlying65 Try.underlying3 (zeroI _) w.heap.size _ (mapL (labsK l k)) rfl (by exact HW.out.map.alloc _) (.int .i64 x.lab) _ rfl HK.out ?_; intro c hat hwc; rw [hhas]; clear hat hwc))
          go_ret2
          exact defP_no (k := k + 1) (by rw [← HN.out]; omega) h1.out (fr_al HW.out.fr _)
      · have h1 : Hid (twiceK l (k + 1) = false) := Lib.hid (by unfold twiceK; rw [hone, hx]; simp [e])
        have h2 : Hid (labsK l (k + 1) = labsK l k) := Lib.hid (by show (if _ then _ else _) = _; rw [hx, if_neg e])
        have t2 : (x.k == 2) = false := by simpa using e
        have t3 : (x.k != 2) = true := by simpa using e
        clear e hx hlk hone
        go_wp2
        go_roundw
        case rel => exact ⟨k + 1, by go_num, by omega, Lib.hid (HW.out.keep (World.grownBy_alloc _ _ _) h1.out h2.out)⟩
        case measure => simp [intOf]; omega
    · obtain rfl : n = k := by omega
      have HO := HN.out
      go_wp2
      go_ret2
      subst HO
      exact defP_yes HW.out.once HW.out.fr (Nat.le_refl _) HW.out.map
end Go.Proofs.Ytfnlhammjallfaa
