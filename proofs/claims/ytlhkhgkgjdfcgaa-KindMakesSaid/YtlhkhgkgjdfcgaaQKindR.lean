/-
  Tables of types (layer 8): do two fields have the same name? Tables of types (layer 8): placing one part behind the other.
-/
import Derived.Test.YtlhkhgkgjdfcgaaQKindQ
import Derived.Maps.Own
import Derived.Maps.OwnOps
import Derived.Maps.OwnSet
import Derived.Maps.Views
import Derived.LoopTactic
import Derived.Outline
namespace Go.Proofs.Ytlhkhgkgjdfcgaa
open Go.RowKit Go.Maps Go.WideMaps
set_option linter.unusedVariables false
set_option linter.unusedSimpArgs false
def nameKey (f : Fld) : Lit := .string f.name.data.toList
def nameKeys (fs : List Fld) (k : Nat) : List Lit := (fs.take k).map nameKey
def nameSet (fs : List Fld) (k : Nat) : DataW Unit := setOf (.agg []) (nameKeys fs k)
theorem nameSet_succ (fs : List Fld) (k : Nat) (f : Fld) (hk : k < fs.length) (hf : fs.getD k fld0 = f) : nameSet fs (k + 1) = (nameSet fs k).put (nameKey f) (.agg []) := by
  have e : fs[k] = f := by rw [← hf, List.getD_eq_getElem?_getD, List.getElem?_eq_getElem hk]; rfl
  unfold nameSet nameKeys
  rw [List.take_add_one, List.map_append, List.getElem?_eq_getElem hk, e]
  simp [setOf_snoc]
theorem nameSet_zero (fs : List Fld) : nameSet fs 0 = .map [] := by simp [nameSet, nameKeys, setOf]
/-- Are there two fields of one name? -/
def repB (fs : List Fld) : Bool := decide (Maps.size (nameSet fs fs.length) < fs.length)
theorem law_name : Keyed Try.prog 9 := string_keyed Try.underlying9
set_option maxRecDepth 100000 in
set_option maxHeartbeats 4000000 in
theorem repeats_of (w : World) (a : Option Addr) (n c : Nat) (fs : List Fld) (hfs : FldAt w a n fs) (hfew : fs.length ≤ 100000) (hnm : ∀ f ∈ fs, f.name.size ≤ maxLen) :
    Calls Try.prog 50 #[.slice a n c] w fun r w' => r = .returned (.bool (repB fs)) ∧ Fr (fun _ => False) w w' := by
  have HC := Lib.hid hfs
  have hn := hfs.1
  have hne : n ≤ 100000 := by omega
  have HN := Lib.hid hn
  have HNM := Lib.hid hnm
  have hmm := @run_makeMap Try.prog
  have HR : Hid (∀ s : Nat, s = Maps.size (nameSet fs n) → repB fs = decide (s < n)) := Lib.hid (fun s hs => by unfold repB; rw [hs, ← HN.out])
  clear hfs hn hfew hnm
  go_enter Try.func50, Try.ntmps50
  go_wp2
  go_loopw [9] (fun q wr => ∃ k : Nat, q = .int .i64 k ∧ k ≤ n ∧ wr.ownsMap Try.prog 9 unitElem w.heap.size k (nameSet fs k) ∧ Hid (Fr (fun _ => False) w wr ∧ w.heap.size < wr.heap.size)) (fun q _ => n - (intOf q).toNat)
  case atStart => exact ⟨0, rfl, Nat.zero_le _, by rw [nameSet_zero]; exact World.ownsMap_made _ _ _ _, Lib.hid ⟨fr_al (Fr.refl _ _) _, by simp⟩⟩
  case round =>
    obtain ⟨k, rfl, hk, hown, HW⟩ := hrel
    by_cases hlt : k < n
    · obtain ⟨g, o, ha, hcell⟩ := HC.out.2 k (by have := HN.out; omega)
      obtain ⟨f, hf⟩ : ∃ f, fs.getD k fld0 = f := ⟨_, rfl⟩
      rw [hf] at hcell
      have HE := Lib.hid hf
      have HJ0 : Hid (∀ j, j < 3 → wr.cell? ⟨g, o + (k * 3 + j), none⟩ = f.vals[j]?) := Lib.hid (fun j hj => by
        have h1 : ∃ x, f.vals[j]? = some x := ⟨_, List.getElem?_eq_getElem (by simpa [Fld.vals] using hj)⟩
        obtain ⟨x, h1⟩ := h1
        rw [h1]
        exact HW.out.1.cell ((hcell j hj).trans h1) id)
      have q0 : wr.cell? ⟨g, o + k * 3, none⟩ = some (.string f.name) := HJ0.out 0 (by decide)
      have q1 : wr.cell? ⟨g, o + k * 3 + 1, none⟩ = some (.int .i64 f.type) := HJ0.out 1 (by decide)
      have q2 : wr.cell? ⟨g, o + k * 3 + 2, none⟩ = some (.int .i64 f.off) := HJ0.out 2 (by decide)
      have hkey : keyOf Try.prog 9 (.string f.name) = some (nameKey f) := keyOf_string_mk Try.underlying9 (HNM.out f (by
        have hk' : k < fs.length := by have := HN.out; omega
        have e : fs[k] = f := by rw [← hf, List.getD_eq_getElem?_getD, List.getElem?_eq_getElem hk']; rfl
        rw [← e]; exact List.getElem_mem hk'))
      have hlen : k < maxLen := by unfold maxLen; omega
      have t0 : (0 : Int) ≤ k := by omega
      have t1 : (k : Int) < n := by omega
      have HA := Lib.hid ha
      clear hcell hf
      rw [ha]
      go_wp2_with (at_mapUpdate; refine wpList_mapUpdate_own _ rfl _ _ _ 91 rfl 9 92 law_name Try.underlying91 (unitElem (H := Unit)) w.heap.size k _ rfl (hown.alloc _) hlen _ _ _ rfl rfl hkey _ [] unitElem_mk ?_; intro w1 hown1 hgrow1)
      go_roundw
      case rel => exact ⟨k + 1, by go_num, by omega, (nameSet_succ fs k f (by have := HN.out; omega) HE.out).symm ▸ hown1, Lib.hid ⟨(fr_al HW.out.1 _).trans' (Fr.of_by hgrow1) (fun j hj e => by injection e with e; omega), by have := hgrow1.size; have := HW.out.2; simp at *; omega⟩⟩
      case measure => simp [intOf]; omega
    · obtain rfl : n = k := by omega
      have HR2 := Lib.hid (HR.out _ rfl)
      go_wp2_with (at_len; refine wpList_len_own _ rfl _ 91 rfl 9 92 Try.underlying91 _ w.heap.size n _ rfl hown ?_)
      go_ret
      exact ⟨by rw [HR2.out]; simp, HW.out.1⟩
theorem placer_of (w : World) : Calls Try.prog 51 #[] w fun r w' => r = .returned (.func (.func 53) #[] #[.pointer (some ⟨w.heap.size, 0, none⟩)]) ∧ w' = w.alloc (.cells #[.int .i64 0] 3) := by
  have hmf : ∀ fn first cap w, (Instr.makeFunc fn first cap).run Try.prog w = .ok (.func fn first cap) w := fun _ _ _ _ => rfl
  go_enter Try.func51, Try.ntmps51
  go_wp2
  go_ret
  exact ⟨rfl, rfl⟩
/-- The least multiple that is no less. -/
def upI (n al : Int) : Int := (n + al - 1) / al * al
theorem upI_le {n al : Int} (h : 1 ≤ al) : upI n al ≤ n + al - 1 := by
  unfold upI
  exact Int.ediv_mul_le _ (by omega)
theorem upI_ge {n al : Int} (h : 1 ≤ al) : n ≤ upI n al := by
  unfold upI
  have h1 := Int.lt_ediv_add_one_mul_self (n + al - 1) (by omega : 0 < al)
  have h2 : ((n + al - 1) / al + 1) * al = (n + al - 1) / al * al + al := by rw [Int.add_mul]; omega
  omega
theorem placer_step (pb : Nat) (nx s al : Int) (w : World) (hx : w.cell? ⟨pb, 0, none⟩ = some (.int .i64 nx)) (hf : w.frozen? ⟨pb, 0, none⟩ = false)
    (h0 : 0 ≤ nx ∧ nx ≤ 1000000000) (h1 : 1 ≤ al ∧ al ≤ 1000) (h2 : 0 ≤ s ∧ s ≤ 1000000) :
    Calls Try.prog 53 #[.int .i64 s, .int .i64 al, .pointer (some ⟨pb, 0, none⟩)] w fun r w' => r = .returned (.int .i64 (upI nx al)) ∧ w' = w.setCell ⟨pb, 0, none⟩ (.int .i64 (upI nx al + s)) := by
  have u1 := upI_le (n := nx) h1.1
  have u2 := upI_ge (n := nx) h1.1
  obtain ⟨a0, a1⟩ := h0
  obtain ⟨b0, b1⟩ := h1
  obtain ⟨c0, c1⟩ := h2
  have hz : (al == 0) = false := by rw [beq_eq_false_iff_ne]; omega
  have hd : (nx + al - 1).tdiv al = (nx + al - 1) / al := Int.tdiv_eq_ediv_of_nonneg (by omega)
  have hq0 : 0 ≤ (nx + al - 1) / al := Int.ediv_nonneg (by omega) (by omega)
  have hq1 : (nx + al - 1) / al ≤ nx + al - 1 := Int.ediv_le_self _ (by omega)
  have hm : (nx + al - 1) / al * al = upI nx al := rfl
  generalize upI nx al = u at *
  generalize (nx + al - 1) / al = q at *
  go_enter Try.func53, Try.ntmps53
  go_wp2
  go_ret
  exact ⟨rfl, rfl⟩
end Go.Proofs.Ytlhkhgkgjdfcgaa
