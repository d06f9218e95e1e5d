/-
  The page's example (layer 13).
-/
import Derived.Test.YtnhdchagoabjeaaDoorBldF
namespace Go.Proofs.YtnhdchagoabjeaaDoor
open Go.RowKit
set_option linter.unusedVariables false
set_option linter.unusedSimpArgs false
def exI : Inn := ⟨1, 0, -1, -1, 0, 0, 0, 0, 7, [], false⟩
def exB : Bk := ⟨[exI], 3, 0, 0, 0⟩
def exA : Array Value := #[.int .i64 1, .int .i64 0, .int .i64 (-1), .int .i64 (-1), .int .i64 0, .int .i64 0, .int .i64 0, .int .i64 0, .int .u32 7, .slice none 0 0, .bool false]
theorem exI_ok : exI.ok := ⟨by simp [exI, Inn.l8, InR], by simp [exI], by simp [exI], by simp [exI], by simp [exI]⟩
theorem exB_ok : exB.ok := ⟨by intro x hx; simp [exB] at hx; rw [hx]; exact exI_ok, by simp [exB], by simp [exB, InR]⟩
theorem it0 : Lib.itoa 0 = [48] := by unfold Lib.itoa; rw [if_neg (by decide)]; exact Lib.decDigits_one (by decide)
theorem it1 : Lib.itoa 1 = [49] := by unfold Lib.itoa; rw [if_neg (by decide)]; exact Lib.decDigits_one (by decide)
theorem it3 : Lib.itoa 3 = [51] := by unfold Lib.itoa; rw [if_neg (by decide)]; exact Lib.decDigits_one (by decide)
theorem itn : Lib.itoa (-1) = [45, 49] := by unfold Lib.itoa; rw [if_pos (by decide)]; exact congrArg _ (Lib.decDigits_one (by decide))
theorem dd7 : Lib.decDigits 7 = [55] := Lib.decDigits_one (by decide)
theorem ex_text : textL [exB] 1 = [98, 48, 58, 10, 32, 49, 32, 48, 32, 45, 49, 32, 45, 49, 32, 48, 32, 48, 32, 48, 32, 48, 32, 55, 10, 32, 101, 110, 100, 32, 51, 32, 48, 32, 48, 32, 48, 10] := by
  simp [textL, exB, exI, inssL, innL, lineL, numsL, Inn.l8, headL, tailL, it0, it1, it3, itn, dd7]
theorem ex_at {w W : World} (hf : Fr (fun _ => False) ((w.alloc (.cells exA 38)).alloc (.cells #[.slice (some ⟨w.heap.size, 0, none⟩) 1 1, .int .i64 3, .int .i64 0, .int .i64 0, .int .i64 0] 41)) W) : BkL W (some ⟨w.heap.size + 1, 0, none⟩) [exB] := by
  intro k hk
  obtain rfl : k = 0 := by simpa using hk
  have h1 : ∀ (j : Nat) (y : Value), exA[j]? = some y → W.cell? ⟨w.heap.size, j, none⟩ = some y := fun j y h => hf.cell (two1 w exA _ _ _ j y h) id
  have h2 : ∀ (j : Nat) (y : Value), (#[.slice (some ⟨w.heap.size, 0, none⟩) 1 1, .int .i64 3, .int .i64 0, .int .i64 0, .int .i64 0] : Array Value)[j]? = some y → W.cell? ⟨w.heap.size + 1, j, none⟩ = some y := fun j y h => hf.cell (two2 w exA _ _ _ j y h) id
  refine ⟨w.heap.size + 1, 0, rfl, ⟨some ⟨w.heap.size, 0, none⟩, 1, h2 0 _ rfl, ?_⟩, h2 1 _ rfl, h2 2 _ rfl, h2 3 _ rfl, h2 4 _ rfl⟩
  intro j hj
  obtain rfl : j = 0 := by simpa [exB] using hj
  refine ⟨w.heap.size, 0, rfl, h1 0 _ rfl, h1 1 _ rfl, h1 2 _ rfl, h1 3 _ rfl, h1 4 _ rfl, h1 5 _ rfl, h1 6 _ rfl, h1 7 _ rfl, h1 8 _ rfl, ⟨none, 0, h1 9 _ rfl, ?_⟩, h1 10 _ rfl⟩
  intro i hi
  exact absurd hi (by show ¬ i < 0; omega)
theorem row_new (w : World) (A : Array Value) (T : TypeId) : Row (w.alloc (.cells A T)) w.heap.size A := fun j y h => fcell w A T j y h
set_option maxRecDepth 100000 in
set_option maxHeartbeats 8000000 in
theorem awake_of (w : World) (ht : TabW w) : Calls Tryd.prog 7 #[] w fun e w' => e = .returned (.bool true) ∧ Fr (fun _ => False) w w' := by
  have HT := Lib.hid ht
  have HTX : Hid (∀ W, Fr (fun _ => False) ((w.alloc (.cells exA 38)).alloc (.cells #[.slice (some ⟨w.heap.size, 0, none⟩) 1 1, .int .i64 3, .int .i64 0, .int .i64 0, .int .i64 0] 41)) W → Calls Tryd.prog 21 #[.agg #[.string ⟨#[]⟩, .bool false, .int .i64 0, .int .i64 1, .slice none 0 0, .slice (some ⟨w.heap.size + 1, 0, none⟩) 1 1]] W fun e w' => e = .returned (.string ⟨#[98, 48, 58, 10, 32, 49, 32, 48, 32, 45, 49, 32, 45, 49, 32, 48, 32, 48, 32, 48, 32, 48, 32, 55, 10, 32, 101, 110, 100, 32, 51, 32, 48, 32, 48, 32, 48, 10]⟩) ∧ Fr (fun _ => False) W w') := Lib.hid (fun W h => by
    have q := text_any (.string ⟨#[]⟩) (.bool false) (.int .i64 0) (.int .i64 1) (.slice none 0 0) (some ⟨w.heap.size + 1, 0, none⟩) 1 [exB] (by decide) (by intro x hx; simp at hx; rw [hx]; exact exB_ok)
      (by intro x hx i hi w ht; simp at hx; rw [hx] at hi; simp [exB] at hi; rw [hi]; exact fmtu_small 7 (by decide) w) W (ex_at h) (ht.fr ((fr_al (fr_al (Fr.refl (fun _ => False) _) _) _).trans h) id)
    have e : textL [exB] [exB].length = [98, 48, 58, 10, 32, 49, 32, 48, 32, 45, 49, 32, 45, 49, 32, 48, 32, 48, 32, 48, 32, 48, 32, 55, 10, 32, 101, 110, 100, 32, 51, 32, 48, 32, 48, 32, 48, 10] := ex_text
    rw [e] at q
    exact q)
  have HSZ : Hid (∀ W, Fr (fun _ => False) ((w.alloc (.cells exA 38)).alloc (.cells #[.slice (some ⟨w.heap.size, 0, none⟩) 1 1, .int .i64 3, .int .i64 0, .int .i64 0, .int .i64 0] 41)) W → Calls Tryd.prog 23 #[.agg #[.string ⟨#[]⟩, .bool false, .int .i64 0, .int .i64 1, .slice none 0 0, .slice (some ⟨w.heap.size + 1, 0, none⟩) 1 1]] W fun e w' => e = .returned (.int .i64 2) ∧ Fr (fun _ => False) W w') := Lib.hid (fun W h =>
    size_any (.string ⟨#[]⟩) (.bool false) (.int .i64 0) (.int .i64 1) (.slice none 0 0) (some ⟨w.heap.size + 1, 0, none⟩) 1 [exB] (by decide) (by intro x hx; simp at hx; rw [hx]; exact exB_ok) W (ex_at h))
  have HPX : Hid (∀ W, Fr (fun _ => False) (((w.alloc (.cells exA 38)).alloc (.cells #[.slice (some ⟨w.heap.size, 0, none⟩) 1 1, .int .i64 3, .int .i64 0, .int .i64 0, .int .i64 0] 41)).alloc (.cells #[.string ⟨#[]⟩, .bool false, .int .i64 0, .int .i64 1, .slice none 0 0, .slice (some ⟨w.heap.size + 1, 0, none⟩) 1 1] 50)) W → ∀ (j : Nat) (y : Value), (#[.string ⟨#[]⟩, .bool false, .int .i64 0, .int .i64 1, .slice none 0 0, .slice (some ⟨w.heap.size + 1, 0, none⟩) 1 1] : Array Value)[j]? = some y → W.cell? ⟨w.heap.size + 1 + 1, j, none⟩ = some y) := Lib.hid (fun W h j y hj => by
    have e := fcell ((w.alloc (.cells exA 38)).alloc (.cells #[.slice (some ⟨w.heap.size, 0, none⟩) 1 1, .int .i64 3, .int .i64 0, .int .i64 0, .int .i64 0] 41)) #[.string ⟨#[]⟩, .bool false, .int .i64 0, .int .i64 1, .slice none 0 0, .slice (some ⟨w.heap.size + 1, 0, none⟩) 1 1] 50 j y hj
    have es : ((w.alloc (.cells exA 38)).alloc (.cells #[.slice (some ⟨w.heap.size, 0, none⟩) 1 1, .int .i64 3, .int .i64 0, .int .i64 0, .int .i64 0] 41)).heap.size = w.heap.size + 1 + 1 := by simp
    rw [es] at e
    exact h.cell e id)
  have HRI : Hid (∀ W, Fr (fun _ => False) ((w.alloc (.cells exA 38)).alloc (.cells #[.slice (some ⟨w.heap.size, 0, none⟩) 1 1, .int .i64 3, .int .i64 0, .int .i64 0, .int .i64 0] 41)) W → Row W w.heap.size ins22) := Lib.hid (fun W h j y hj => h.cell (two1 w exA _ _ _ j y hj) id)
  have HRB : Hid (∀ W, Fr (fun _ => False) ((w.alloc (.cells exA 38)).alloc (.cells #[.slice (some ⟨w.heap.size, 0, none⟩) 1 1, .int .i64 3, .int .i64 0, .int .i64 0, .int .i64 0] 41)) W → Row W (w.heap.size + 1) #[.slice (some ⟨w.heap.size, 0, none⟩) 1 1, .int .i64 3, .int .i64 0, .int .i64 0, .int .i64 0]) := Lib.hid (fun W h j y hj => h.cell (two2 w exA _ _ _ j y hj) id)
  have HFW : Hid (Fr (fun _ => False) w ((w.alloc (.cells exA 38)).alloc (.cells #[.slice (some ⟨w.heap.size, 0, none⟩) 1 1, .int .i64 3, .int .i64 0, .int .i64 0, .int .i64 0] 41))) := Lib.hid (fr_al (fr_al (Fr.refl _ _) _) _)
  clear ht
  unfold exA at HTX HSZ HPX HRI HRB HFW
  go_enter Tryd.func7, Tryd.ntmps7
  go_wp2_with (first
    | (go_at_call 21; (with_reducible refine (HTX.out _ (fr_al (Fr.refl _ _) _)).mono ?_); rintro e w2 ⟨rfl, hf⟩; have k0 : w2.cell? ⟨w.heap.size + 1 + 1, 0, none⟩ = some (.string ⟨#[]⟩) := HPX.out _ hf 0 _ rfl; have k1 : w2.cell? ⟨w.heap.size + 1 + 1, 1, none⟩ = some (.bool false) := HPX.out _ hf 1 _ rfl; have k2 : w2.cell? ⟨w.heap.size + 1 + 1, 2, none⟩ = some (.int .i64 0) := HPX.out _ hf 2 _ rfl; have k3 : w2.cell? ⟨w.heap.size + 1 + 1, 3, none⟩ = some (.int .i64 1) := HPX.out _ hf 3 _ rfl; have k4 : w2.cell? ⟨w.heap.size + 1 + 1, 4, none⟩ = some (.slice none 0 0) := HPX.out _ hf 4 _ rfl; have k5 : w2.cell? ⟨w.heap.size + 1 + 1, 5, none⟩ = some (.slice (some ⟨w.heap.size + 1, 0, none⟩) 1 1) := HPX.out _ hf 5 _ rfl; have HF2 := Lib.hid hf; have HCK := Lib.hid (check_ok w2.heap.size (w.heap.size + 1) w.heap.size (w2.alloc (.cells #[.string ⟨#[]⟩, .bool false, .int .i64 0, .int .i64 1, .slice none 0 0, .slice (some ⟨w.heap.size + 1, 0, none⟩) 1 1] 50)) (row_new w2 _ _) (HRB.out _ ((fr_al (Fr.refl _ _) _).trans (hf.trans (fr_al (Fr.refl _ w2) _)))) (HRI.out _ ((fr_al (Fr.refl _ _) _).trans (hf.trans (fr_al (Fr.refl _ w2) _))))); clear hf)
    | (go_at_call 8; (with_reducible refine HCK.out.mono ?_); rintro e w3 ⟨rfl, hf⟩; have hf2 := HF2.out; have l0 : w3.cell? ⟨w.heap.size + 1 + 1, 0, none⟩ = some (.string ⟨#[]⟩) := HPX.out _ (hf2.trans ((fr_al (Fr.refl (fun _ => False) w2) _).trans hf)) 0 _ rfl; have l1 : w3.cell? ⟨w.heap.size + 1 + 1, 1, none⟩ = some (.bool false) := HPX.out _ (hf2.trans ((fr_al (Fr.refl (fun _ => False) w2) _).trans hf)) 1 _ rfl; have l2 : w3.cell? ⟨w.heap.size + 1 + 1, 2, none⟩ = some (.int .i64 0) := HPX.out _ (hf2.trans ((fr_al (Fr.refl (fun _ => False) w2) _).trans hf)) 2 _ rfl; have l3 : w3.cell? ⟨w.heap.size + 1 + 1, 3, none⟩ = some (.int .i64 1) := HPX.out _ (hf2.trans ((fr_al (Fr.refl (fun _ => False) w2) _).trans hf)) 3 _ rfl; have l4 : w3.cell? ⟨w.heap.size + 1 + 1, 4, none⟩ = some (.slice none 0 0) := HPX.out _ (hf2.trans ((fr_al (Fr.refl (fun _ => False) w2) _).trans hf)) 4 _ rfl; have l5 : w3.cell? ⟨w.heap.size + 1 + 1, 5, none⟩ = some (.slice (some ⟨w.heap.size + 1, 0, none⟩) 1 1) := HPX.out _ (hf2.trans ((fr_al (Fr.refl (fun _ => False) w2) _).trans hf)) 5 _ rfl; have HF3 := Lib.hid (HF2.out.trans ((fr_al (Fr.refl (fun _ => False) w2) _).trans hf)); clear hf hf2)
    | (go_at_call 23; (with_reducible refine (HSZ.out _ ((fr_al (Fr.refl _ _) _).trans HF3.out)).mono ?_); rintro e w4 ⟨rfl, hf⟩; have HF4 := Lib.hid (HF3.out.trans hf); clear hf))
  go_ret
  exact ⟨rfl, HFW.out.trans ((fr_al (Fr.refl _ _) _).trans HF4.out)⟩
end Go.Proofs.YtnhdchagoabjeaaDoor
