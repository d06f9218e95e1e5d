/-
  How many instructions and blocks a procedure has (layer 13). The page's example (layer 13).
-/
import Derived.Test.YtdhagimcffmdfaaDoorQBldE
import Derived.Test.YtdhagimcffmdfaaDoorQIqF
namespace Go.Proofs.YtdhagimcffmdfaaDoor
open Go.RowKit
set_option linter.unusedVariables false
set_option linter.unusedSimpArgs false
def cntL (l : List Bk) : Nat → Nat
  | 0 => 0
  | k + 1 => cntL l k + (l.getD k bk0).ins.length
theorem cntL_le (l : List Bk) (h : ∀ x ∈ l, x.ok) (k : Nat) (hk : k ≤ l.length) : cntL l k ≤ 1000 * k := by
  induction k with
  | zero => simp [cntL]
  | succ k ih =>
    have h1 := ih (by omega)
    have h2 := (h _ (getD_mem (l := l) (k := k) (by omega))).n
    simp only [cntL]; omega
set_option maxRecDepth 100000 in
set_option maxHeartbeats 4000000 in
theorem count_any (nm vd pa rg ob : Value) (ab : Option Addr) (cb : Nat) (l : List Bk) (hl : l.length ≤ 1000) (hok : ∀ x ∈ l, x.ok) (w : World) (hat : BkL w ab l) :
    Calls Tryd.prog 44 #[.agg #[nm, vd, pa, rg, ob, .slice ab l.length cb]] w fun e w' => e = .returned (.int .i64 (cntL l l.length)) ∧ Fr (fun _ => False) w w' := by
  have HA := Lib.hid hat
  have HOK := Lib.hid hok
  obtain ⟨n, hn⟩ : ∃ n, l.length = n := ⟨_, rfl⟩
  have HN := Lib.hid hn
  rw [hn] at hl ⊢
  clear hat hok hn
  go_enter Tryd.func44, Tryd.ntmps44
  go_wp2
  have HF0 : Hid (Fr (fun _ => False) w (w.alloc (.cells #[nm, vd, pa, rg, ob, .slice ab n cb] 50))) := Lib.hid (fr_al (Fr.refl _ _) _)
  go_loopw [3, 9] (fun s q wr => ∃ k : Nat, q = .int .i64 k ∧ s = .int .i64 (cntL l k) ∧ k ≤ n ∧ Hid (Fr (fun _ => False) w wr)) (fun _ q _ => n - (intOf q).toNat)
  case atStart => exact ⟨0, rfl, rfl, Nat.zero_le _, HF0⟩
  case round =>
    obtain ⟨k, rfl, rfl, hk, HW⟩ := hrel
    by_cases hlt : k < n
    · have hkl : k < l.length := by rw [HN.out]; exact hlt
      obtain ⟨g, o, rfl, ⟨ai, ci, c0', HIL⟩, c1', c2', c3', c4'⟩ := HA.out k hkl
      have c0 := HW.out.cell c0' id
      have c1 := HW.out.cell c1' id
      have c2 := HW.out.cell c2' id
      have c3 := HW.out.cell c3' id
      have c4 := HW.out.cell c4' id
      have hc := cntL_le l HOK.out k (by omega)
      have hi := (HOK.out _ (getD_mem hkl)).n
      have HC : Hid (cntL l (k + 1) = cntL l k + (l.getD k bk0).ins.length) := Lib.hid rfl
      generalize cntL l k = m at *
      generalize (l.getD k bk0).ins.length = ni at *
      have hk1 : (m : Int) ≤ 1000 * k := by omega
      have hi1 : (ni : Int) ≤ 1000 := by omega
      clear c0' c1' c2' c3' c4' HIL hkl
      go_wp2
      go_roundw
      case rel => exact ⟨k + 1, by go_num, by rw [HC.out]; go_num, by omega, Lib.hid (fr_al HW.out _)⟩
      case measure => simp [intOf]; omega
    · obtain rfl : k = n := by omega
      go_wp2
      go_ret
      exact ⟨rfl, HW.out⟩
set_option maxRecDepth 100000 in
set_option maxHeartbeats 4000000 in
theorem size_any (nm vd pa rg ob : Value) (ab : Option Addr) (cb : Nat) (l : List Bk) (hl : l.length ≤ 1000) (hok : ∀ x ∈ l, x.ok) (w : World) (hat : BkL w ab l) :
    Calls Tryd.prog 23 #[.agg #[nm, vd, pa, rg, ob, .slice ab l.length cb]] w fun e w' => e = .returned (.int .i64 (cntL l l.length + l.length)) ∧ Fr (fun _ => False) w w' := by
  have HC := Lib.hid (fun (W : World) (h : Fr (fun _ => False) w W) => count_any nm vd pa rg ob ab cb l hl hok W (hat.fr h))
  have hc := cntL_le l hok l.length (Nat.le_refl _)
  generalize cntL l l.length = m at *
  generalize l.length = n at *
  have t0 : (m : Int) ≤ 1000 * n := by omega
  have t1 : (n : Int) ≤ 1000 := by omega
  have hw : IntKind.i64.wrap ((m : Int) + n) = m + n := IntWalk.i64_in _ (by omega)
  clear hat hok hl hc
  go_enter Tryd.func23, Tryd.ntmps23
  go_wp2
  have HF0 : Hid (Fr (fun _ => False) w (w.alloc (.cells #[nm, vd, pa, rg, ob, .slice ab n cb] 50))) := Lib.hid (fr_al (Fr.refl _ _) _)
  have HR : Hid (∀ (j : Nat) (y : Value), (#[nm, vd, pa, rg, ob, .slice ab n cb] : Array Value)[j]? = some y → (w.alloc (.cells #[nm, vd, pa, rg, ob, .slice ab n cb] 50)).cell? ⟨w.heap.size, j, none⟩ = some y) := Lib.hid (fun j y h => fcell w _ _ j y h)
  generalize w.alloc (.cells #[nm, vd, pa, rg, ob, .slice ab n cb] 50) = V at *
  generalize w.heap.size = b at *
  have k0 := HR.out 0 _ rfl
  have k1 := HR.out 1 _ rfl
  have k2 := HR.out 2 _ rfl
  have k3 := HR.out 3 _ rfl
  have k4 := HR.out 4 _ rfl
  have k5 := HR.out 5 _ rfl
  refine wp_region_class (fun W => Fr (fun _ => False) V W) (by kernel_rfl) (by kernel_rfl) ((Fr.refl _ _).drewN 1) ?_
  repeat (first
    | go_big_quiet_skip
    | (go_big_quiet_want; go_big_quiet_op; first
      | go_big_quiet_on
      | (apply Exists.intro; refine ⟨fun W hW => ?_, ?_⟩; (first
        | with_reducible rfl
        | (simp only [Result.andThen, hW.cell k0 id, hW.cell k1 id, hW.cell k2 id, hW.cell k3 id, hW.cell k4 id, hW.cell k5 id]; first | exact ⟨rfl, rfl⟩ | exact ⟨trivial, rfl⟩)
        | (go_at_call 44; with_reducible exact callQ hW (HC.out _ (HF0.out.trans hW)))); go_big_quiet_on)))
  refine wpQuiet_nil ?_
  intro w5 hf5
  have HF5 := Lib.hid hf5
  clear hf5
  go_wp2_with fail
  go_ret
  exact ⟨rfl, HF0.out.trans HF5.out⟩
def exI : Inn := ⟨1, 0, -1, -1, 0, 0, 0, 0, 7, [], false⟩
def exB : Bk := ⟨[exI], 3, 0, 0, 0⟩
def exA : Array Value := #[.int .i64 1, .int .i64 0, .int .i64 (-1), .int .i64 (-1), .int .i64 0, .int .i64 0, .int .i64 0, .int .i64 0, .int .u32 7, .slice none 0 0, .bool false]
theorem exI_ok : exI.ok := ⟨by simp [exI, Inn.l8, InR], by simp [exI], by simp [exI], by simp [exI], by simp [exI]⟩
theorem exB_ok : exB.ok := ⟨by intro x hx; simp [exB] at hx; rw [hx]; exact exI_ok, by simp [exB], by simp [exB, InR]⟩
theorem it0 : Lib.itoa 0 = [48] := by unfold Lib.itoa; rw [if_neg (by decide)]; exact Lib.decDigits_one (by decide)
theorem it1 : Lib.itoa 1 = [49] := by unfold Lib.itoa; rw [if_neg (by decide)]; exact Lib.decDigits_one (by decide)
theorem it3 : Lib.itoa 3 = [51] := by unfold Lib.itoa; rw [if_neg (by decide)]; exact Lib.decDigits_one (by decide)
theorem itn : Lib.itoa (-1) = [45, 49] := by unfold Lib.itoa; rw [if_pos (by decide)]; exact congrArg _ (Lib.decDigits_one (by decide))
theorem dd7 : Lib.decDigits 7 = [55] := Lib.decDigits_one (by decide)
theorem ex_text : textL [exB] 1 = [98, 48, 58, 10, 32, 49, 32, 48, 32, 45, 49, 32, 45, 49, 32, 48, 32, 48, 32, 48, 32, 48, 32, 55, 10, 32, 101, 110, 100, 32, 51, 32, 48, 32, 48, 32, 48, 10] := by
  simp [textL, exB, exI, inssL, innL, lineL, numsL, Inn.l8, headL, tailL, it0, it1, it3, itn, dd7]
theorem ex_at {w W : World} (hf : Fr (fun _ => False) ((w.alloc (.cells exA 38)).alloc (.cells #[.slice (some ⟨w.heap.size, 0, none⟩) 1 1, .int .i64 3, .int .i64 0, .int .i64 0, .int .i64 0] 41)) W) : BkL W (some ⟨w.heap.size + 1, 0, none⟩) [exB] := by
  intro k hk
  obtain rfl : k = 0 := by simpa using hk
  have h1 : ∀ (j : Nat) (y : Value), exA[j]? = some y → W.cell? ⟨w.heap.size, j, none⟩ = some y := fun j y h => hf.cell (two1 w exA _ _ _ j y h) id
  have h2 : ∀ (j : Nat) (y : Value), (#[.slice (some ⟨w.heap.size, 0, none⟩) 1 1, .int .i64 3, .int .i64 0, .int .i64 0, .int .i64 0] : Array Value)[j]? = some y → W.cell? ⟨w.heap.size + 1, j, none⟩ = some y := fun j y h => hf.cell (two2 w exA _ _ _ j y h) id
  refine ⟨w.heap.size + 1, 0, rfl, ⟨some ⟨w.heap.size, 0, none⟩, 1, h2 0 _ rfl, ?_⟩, h2 1 _ rfl, h2 2 _ rfl, h2 3 _ rfl, h2 4 _ rfl⟩
  intro j hj
  obtain rfl : j = 0 := by simpa [exB] using hj
  refine ⟨w.heap.size, 0, rfl, h1 0 _ rfl, h1 1 _ rfl, h1 2 _ rfl, h1 3 _ rfl, h1 4 _ rfl, h1 5 _ rfl, h1 6 _ rfl, h1 7 _ rfl, h1 8 _ rfl, ⟨none, 0, h1 9 _ rfl, ?_⟩, h1 10 _ rfl⟩
  intro i hi
  exact absurd hi (by show ¬ i < 0; omega)
theorem row_new (w : World) (A : Array Value) (T : TypeId) : Row (w.alloc (.cells A T)) w.heap.size A := fun j y h => fcell w A T j y h
set_option maxRecDepth 100000 in
set_option maxHeartbeats 8000000 in
theorem awake_of (w : World) (ht : TabW w) : Calls Tryd.prog 7 #[] w fun e w' => e = .returned (.bool true) ∧ Fr (fun _ => False) w w' := by
  have HT := Lib.hid ht
  have HTX : Hid (∀ W, Fr (fun _ => False) ((w.alloc (.cells exA 38)).alloc (.cells #[.slice (some ⟨w.heap.size, 0, none⟩) 1 1, .int .i64 3, .int .i64 0, .int .i64 0, .int .i64 0] 41)) W → Calls Tryd.prog 21 #[.agg #[.string ⟨#[]⟩, .bool false, .int .i64 0, .int .i64 1, .slice none 0 0, .slice (some ⟨w.heap.size + 1, 0, none⟩) 1 1]] W fun e w' => e = .returned (.string ⟨#[98, 48, 58, 10, 32, 49, 32, 48, 32, 45, 49, 32, 45, 49, 32, 48, 32, 48, 32, 48, 32, 48, 32, 55, 10, 32, 101, 110, 100, 32, 51, 32, 48, 32, 48, 32, 48, 10]⟩) ∧ Fr (fun _ => False) W w') := Lib.hid (fun W h => by
    have q := text_any (.string ⟨#[]⟩) (.bool false) (.int .i64 0) (.int .i64 1) (.slice none 0 0) (some ⟨w.heap.size + 1, 0, none⟩) 1 [exB] (by decide) (by intro x hx; simp at hx; rw [hx]; exact exB_ok)
      (by intro x hx i hi w ht; simp at hx; rw [hx] at hi; simp [exB] at hi; rw [hi]; exact fmtu_small 7 (by decide) w) W (ex_at h) (ht.fr ((fr_al (fr_al (Fr.refl (fun _ => False) _) _) _).trans h) id)
    have e : textL [exB] [exB].length = [98, 48, 58, 10, 32, 49, 32, 48, 32, 45, 49, 32, 45, 49, 32, 48, 32, 48, 32, 48, 32, 48, 32, 55, 10, 32, 101, 110, 100, 32, 51, 32, 48, 32, 48, 32, 48, 10] := ex_text
    rw [e] at q
    exact q)
  have HSZ : Hid (∀ W, Fr (fun _ => False) ((w.alloc (.cells exA 38)).alloc (.cells #[.slice (some ⟨w.heap.size, 0, none⟩) 1 1, .int .i64 3, .int .i64 0, .int .i64 0, .int .i64 0] 41)) W → Calls Tryd.prog 23 #[.agg #[.string ⟨#[]⟩, .bool false, .int .i64 0, .int .i64 1, .slice none 0 0, .slice (some ⟨w.heap.size + 1, 0, none⟩) 1 1]] W fun e w' => e = .returned (.int .i64 2) ∧ Fr (fun _ => False) W w') := Lib.hid (fun W h =>
    size_any (.string ⟨#[]⟩) (.bool false) (.int .i64 0) (.int .i64 1) (.slice none 0 0) (some ⟨w.heap.size + 1, 0, none⟩) 1 [exB] (by decide) (by intro x hx; simp at hx; rw [hx]; exact exB_ok) W (ex_at h))
  have HPX : Hid (∀ W, Fr (fun _ => False) (((w.alloc (.cells exA 38)).alloc (.cells #[.slice (some ⟨w.heap.size, 0, none⟩) 1 1, .int .i64 3, .int .i64 0, .int .i64 0, .int .i64 0] 41)).alloc (.cells #[.string ⟨#[]⟩, .bool false, .int .i64 0, .int .i64 1, .slice none 0 0, .slice (some ⟨w.heap.size + 1, 0, none⟩) 1 1] 50)) W → ∀ (j : Nat) (y : Value), (#[.string ⟨#[]⟩, .bool false, .int .i64 0, .int .i64 1, .slice none 0 0, .slice (some ⟨w.heap.size + 1, 0, none⟩) 1 1] : Array Value)[j]? = some y → W.cell? ⟨w.heap.size + 1 + 1, j, none⟩ = some y) := Lib.hid (fun W h j y hj => by
    have e := fcell ((w.alloc (.cells exA 38)).alloc (.cells #[.slice (some ⟨w.heap.size, 0, none⟩) 1 1, .int .i64 3, .int .i64 0, .int .i64 0, .int .i64 0] 41)) #[.string ⟨#[]⟩, .bool false, .int .i64 0, .int .i64 1, .slice none 0 0, .slice (some ⟨w.heap.size + 1, 0, none⟩) 1 1] 50 j y hj
    have es : ((w.alloc (.cells exA 38)).alloc (.cells #[.slice (some ⟨w.heap.size, 0, none⟩) 1 1, .int .i64 3, .int .i64 0, .int .i64 0, .int .i64 0] 41)).heap.size = w.heap.size + 1 + 1 := by simp
    rw [es] at e
    exact h.cell e id)
  have HRI : Hid (∀ W, Fr (fun _ => False) ((w.alloc (.cells exA 38)).alloc (.cells #[.slice (some ⟨w.heap.size, 0, none⟩) 1 1, .int .i64 3, .int .i64 0, .int .i64 0, .int .i64 0] 41)) W → Row W w.heap.size ins22) := Lib.hid (fun W h j y hj => h.cell (two1 w exA _ _ _ j y hj) id)
  have HRB : Hid (∀ W, Fr (fun _ => False) ((w.alloc (.cells exA 38)).alloc (.cells #[.slice (some ⟨w.heap.size, 0, none⟩) 1 1, .int .i64 3, .int .i64 0, .int .i64 0, .int .i64 0] 41)) W → Row W (w.heap.size + 1) #[.slice (some ⟨w.heap.size, 0, none⟩) 1 1, .int .i64 3, .int .i64 0, .int .i64 0, .int .i64 0]) := Lib.hid (fun W h j y hj => h.cell (two2 w exA _ _ _ j y hj) id)
  have HFW : Hid (Fr (fun _ => False) w ((w.alloc (.cells exA 38)).alloc (.cells #[.slice (some ⟨w.heap.size, 0, none⟩) 1 1, .int .i64 3, .int .i64 0, .int .i64 0, .int .i64 0] 41))) := Lib.hid (fr_al (fr_al (Fr.refl _ _) _) _)
  clear ht
  unfold exA at HTX HSZ HPX HRI HRB HFW
  go_enter Tryd.func7, Tryd.ntmps7
  go_wp2_with (first
    | (go_at_call 21; (with_reducible refine (HTX.out _ (fr_al (Fr.refl _ _) _)).mono ?_); rintro e w2 ⟨rfl, hf⟩; have k0 : w2.cell? ⟨w.heap.size + 1 + 1, 0, none⟩ = some (.string ⟨#[]⟩) := HPX.out _ hf 0 _ rfl; have k1 : w2.cell? ⟨w.heap.size + 1 + 1, 1, none⟩ = some (.bool false) := HPX.out _ hf 1 _ rfl; have k2 : w2.cell? ⟨w.heap.size + 1 + 1, 2, none⟩ = some (.int .i64 0) := HPX.out _ hf 2 _ rfl; have k3 : w2.cell? ⟨w.heap.size + 1 + 1, 3, none⟩ = some (.int .i64 1) := HPX.out _ hf 3 _ rfl; have k4 : w2.cell? ⟨w.heap.size + 1 + 1, 4, none⟩ = some (.slice none 0 0) := HPX.out _ hf 4 _ rfl; have k5 : w2.cell? ⟨w.heap.size + 1 + 1, 5, none⟩ = some (.slice (some ⟨w.heap.size + 1, 0, none⟩) 1 1) := HPX.out _ hf 5 _ rfl; have HF2 := Lib.hid hf; have HCK := Lib.hid (check_ok w2.heap.size (w.heap.size + 1) w.heap.size (w2.alloc (.cells #[.string ⟨#[]⟩, .bool false, .int .i64 0, .int .i64 1, .slice none 0 0, .slice (some ⟨w.heap.size + 1, 0, none⟩) 1 1] 50)) (row_new w2 _ _) (HRB.out _ ((fr_al (Fr.refl _ _) _).trans (hf.trans (fr_al (Fr.refl _ w2) _)))) (HRI.out _ ((fr_al (Fr.refl _ _) _).trans (hf.trans (fr_al (Fr.refl _ w2) _))))); clear hf)
    | (go_at_call 8; (with_reducible refine HCK.out.mono ?_); rintro e w3 ⟨rfl, hf⟩; have hf2 := HF2.out; have l0 : w3.cell? ⟨w.heap.size + 1 + 1, 0, none⟩ = some (.string ⟨#[]⟩) := HPX.out _ (hf2.trans ((fr_al (Fr.refl (fun _ => False) w2) _).trans hf)) 0 _ rfl; have l1 : w3.cell? ⟨w.heap.size + 1 + 1, 1, none⟩ = some (.bool false) := HPX.out _ (hf2.trans ((fr_al (Fr.refl (fun _ => False) w2) _).trans hf)) 1 _ rfl; have l2 : w3.cell? ⟨w.heap.size + 1 + 1, 2, none⟩ = some (.int .i64 0) := HPX.out _ (hf2.trans ((fr_al (Fr.refl (fun _ => False) w2) _).trans hf)) 2 _ rfl; have l3 : w3.cell? ⟨w.heap.size + 1 + 1, 3, none⟩ = some (.int .i64 1) := HPX.out _ (hf2.trans ((fr_al (Fr.refl (fun _ => False) w2) _).trans hf)) 3 _ rfl; have l4 : w3.cell? ⟨w.heap.size + 1 + 1, 4, none⟩ = some (.slice none 0 0) := HPX.out _ (hf2.trans ((fr_al (Fr.refl (fun _ => False) w2) _).trans hf)) 4 _ rfl; have l5 : w3.cell? ⟨w.heap.size + 1 + 1, 5, none⟩ = some (.slice (some ⟨w.heap.size + 1, 0, none⟩) 1 1) := HPX.out _ (hf2.trans ((fr_al (Fr.refl (fun _ => False) w2) _).trans hf)) 5 _ rfl; have HF3 := Lib.hid (HF2.out.trans ((fr_al (Fr.refl (fun _ => False) w2) _).trans hf)); clear hf hf2)
    | (go_at_call 23; (with_reducible refine (HSZ.out _ ((fr_al (Fr.refl _ _) _).trans HF3.out)).mono ?_); rintro e w4 ⟨rfl, hf⟩; have HF4 := Lib.hid (HF3.out.trans hf); clear hf))
  go_ret
  exact ⟨rfl, HFW.out.trans ((fr_al (Fr.refl _ _) _).trans HF4.out)⟩
end Go.Proofs.YtdhagimcffmdfaaDoor
