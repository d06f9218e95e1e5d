/-
  Modules (layer 13): an instruction's test, at the page's two operations. Modules (layer 13): a block's test, at the page's block. Modules (layer 13): the test of the page's module. Modules (layer 13): the page's module is right. How many instructions and blocks a procedure has (layer 13). The page's example (layer 13).
-/
import Derived.Test.YthdkmjbeemfbbaaQIrC
import Derived.Deep.QuietTactic
import Derived.BigQuiet
import Derived.LoopTactic
import Derived.Deep.RegionHeld3
import Derived.Test.YthdkmjbeemfbbaaQFr
namespace Go.Proofs.Ythdkmjbeemfbbaa
open Go.RowKit
set_option linter.unusedVariables false
set_option linter.unusedSimpArgs false
/-- A region that draws its order, whose operations yield one value in every world of a class and stay in it: one walk, in the order of the text. -/
theorem wp_region_class {P : Program} (C : World → Prop) {id : Nat} {Q : Exit → Act → World → Prop} {a : Act} {w : World} {l : List Oper} (hm : P.follows .mixedOrders = true) (hB : Region.lexB .any l.toArray = true) (hC : C w.drew)
    (h : wpQuiet P l.toArray C (fun a' => ∀ w', C w' → Q .normal a' w') l a) : (Code.region id l.toArray true).wp P Q a w :=
  wp_region_quiet (C := C) hm hB hC (by simpa using h)
theorem lexB_of {md : Region.Mode} {ops : Array Oper} {n : Nat} (hn : ops.size = n) (h0 : Region.noSelect ops = true) (h : Region.lexFrom md ops n 0 (Array.replicate n false) = true) : Region.lexB md ops = true := by
  subst hn; unfold Region.lexB; rw [h0, h]; rfl
theorem lexStep {md : Region.Mode} {ops : Array Oper} {fuel k : Nat} {listed : Array Bool} (h1 : (Region.ready md ops listed).contains k = true) (h2 : Region.free md ops listed k = true) (h3 : Region.lexFrom md ops fuel (k + 1) (listed.setIfInBounds k true) = true) : Region.lexFrom md ops (fuel + 1) k listed = true := by
  unfold Region.lexFrom; rw [h1, h2, h3]; rfl
theorem callQ {P : Program} {f : FuncId} {args : Array Value} {v : Value} {V W : World} (hW : Fr (fun _ => False) V W) (h : Calls P f args W fun e w' => e = .returned v ∧ Fr (fun _ => False) W w') : Calls P f args W fun e w' => e = .returned v ∧ Fr (fun _ => False) V w' := h.mono fun e w' hh => ⟨hh.1, hW.trans hh.2⟩
theorem two1 (w : World) (A B : Array Value) (T U : TypeId) (j : Nat) (y : Value) (h : A[j]? = some y) : ((w.alloc (.cells A T)).alloc (.cells B U)).cell? ⟨w.heap.size, j, none⟩ = some y :=
  (fr_al (Fr.refl (fun _ => False) _) _).cell (fcell w A T j y h) id
theorem two2 (w : World) (A B : Array Value) (T U : TypeId) (j : Nat) (y : Value) (h : B[j]? = some y) : ((w.alloc (.cells A T)).alloc (.cells B U)).cell? ⟨w.heap.size + 1, j, none⟩ = some y := by
  have e := fcell (w.alloc (.cells A T)) B U j y h
  have es : (w.alloc (.cells A T)).heap.size = w.heap.size + 1 := by simp
  rw [es] at e
  exact e
/-- A row of cells lies in memory. -/
def Rqw (w : World) (b : Nat) (A : Array Value) : Prop := ∀ (j : Nat) (y : Value), A[j]? = some y → w.cell? ⟨b, j, none⟩ = some y
theorem Rqw.fr {w w' : World} {b : Nat} {A : Array Value} (h : Rqw w b A) (hf : Fr (fun _ => False) w w') : Rqw w' b A := fun j y hj => hf.cell (h j y hj) id
def cntL (l : List Bk) : Nat → Nat
  | 0 => 0
  | k + 1 => cntL l k + (l.getD k bk0).ins.length
theorem cntL_le (l : List Bk) (h : ∀ x ∈ l, x.ok) (k : Nat) (hk : k ≤ l.length) : cntL l k ≤ 1000 * k := by
  induction k with
  | zero => simp [cntL]
  | succ k ih =>
    have h1 := ih (by omega)
    have h2 := (h _ (getD_mem (l := l) (k := k) (by omega))).n
    simp only [cntL]; omega
set_option maxRecDepth 100000 in
set_option maxHeartbeats 4000000 in
theorem count_any (nm vd pa rg ob : Value) (ab : Option Addr) (cb : Nat) (l : List Bk) (hl : l.length ≤ 1000) (hok : ∀ x ∈ l, x.ok) (w : World) (hat : BkL w ab l) :
    Calls Try.prog 41 #[.agg #[nm, vd, pa, rg, ob, .slice ab l.length cb]] w fun e w' => e = .returned (.int .i64 (cntL l l.length)) ∧ Fr (fun _ => False) w w' := by
  have HA := Lib.hid hat
  have HOK := Lib.hid hok
  obtain ⟨n, hn⟩ : ∃ n, l.length = n := ⟨_, rfl⟩
  have HN := Lib.hid hn
  rw [hn] at hl ⊢
  clear hat hok hn
  go_enter Try.func41, Try.ntmps41
  go_wp2
  have HF0 : Hid (Fr (fun _ => False) w (w.alloc (.cells #[nm, vd, pa, rg, ob, .slice ab n cb] 41))) := Lib.hid (fr_al (Fr.refl _ _) _)
  go_loopw [3, 9] (fun s q wr => ∃ k : Nat, q = .int .i64 k ∧ s = .int .i64 (cntL l k) ∧ k ≤ n ∧ Hid (Fr (fun _ => False) w wr)) (fun _ q _ => n - (intOf q).toNat)
  case atStart => exact ⟨0, rfl, rfl, Nat.zero_le _, HF0⟩
  case round =>
    obtain ⟨k, rfl, rfl, hk, HW⟩ := hrel
    by_cases hlt : k < n
    · have hkl : k < l.length := by rw [HN.out]; exact hlt
      obtain ⟨g, o, rfl, ⟨ai, ci, c0', HIL⟩, c1', c2', c3', c4'⟩ := HA.out k hkl
      have c0 := HW.out.cell c0' id
      have c1 := HW.out.cell c1' id
      have c2 := HW.out.cell c2' id
      have c3 := HW.out.cell c3' id
      have c4 := HW.out.cell c4' id
      have hc := cntL_le l HOK.out k (by omega)
      have hi := (HOK.out _ (getD_mem hkl)).n
      have HC : Hid (cntL l (k + 1) = cntL l k + (l.getD k bk0).ins.length) := Lib.hid rfl
      generalize cntL l k = m at *
      generalize (l.getD k bk0).ins.length = ni at *
      have hk1 : (m : Int) ≤ 1000 * k := by omega
      have hi1 : (ni : Int) ≤ 1000 := by omega
      clear c0' c1' c2' c3' c4' HIL hkl
      go_wp2
      go_roundw
      case rel => exact ⟨k + 1, by go_num, by rw [HC.out]; go_num, by omega, Lib.hid (fr_al HW.out _)⟩
      case measure => simp [intOf]; omega
    · obtain rfl : k = n := by omega
      go_wp2
      go_ret
      exact ⟨rfl, HW.out⟩
end Go.Proofs.Ythdkmjbeemfbbaa
