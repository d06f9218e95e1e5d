/-
  An instruction's line (layer 13).
-/
import Derived.Test.YtnhdchagoabjeaaDoorBldB
import Derived.Deep.RegionHeld3
import Derived.Deep.DeepCutAuto
import Derived.IntWalk
namespace Go.Proofs.YtnhdchagoabjeaaDoor
open Go.RowKit
set_option linter.unusedVariables false
set_option linter.unusedSimpArgs false
theorem small_any (u : Nat) (hu : u < 100) (w : World) : Calls Tryd.prog 69 #[.int .u64 u, .int .i64 10] w fun e w' => e = .returned (.string ⟨(Lib.decDigits u).toArray⟩) ∧ Fr (fun _ => False) w w' := by
  have t0 : (0 : Int) ≤ u := by omega
  have t1 : (u : Int) < 100 := by omega
  have HC := Lib.hid (Tryd.internal_strconv_small u hu)
  clear hu
  go_enter Tryd.func69, Tryd.ntmps69
  go_wp2_with (go_at_call 74; (with_reducible refine (HC.out _).mono ?_); rintro e w2 ⟨rfl, rfl⟩)
  go_ret
  exact ⟨rfl, Fr.refl _ _⟩
theorem fmtu_small (u : Nat) (hu : u < 100) (w : World) : Calls Tryd.prog 57 #[.int .u64 u, .int .i64 10] w fun e w' => e = .returned (.string ⟨(Lib.decDigits u).toArray⟩) ∧ Fr (fun _ => False) w w' := by
  have HC := Lib.hid (small_any u hu)
  go_enter Tryd.func57, Tryd.ntmps57
  go_wp2_with (go_at_call 69; (with_reducible refine (HC.out _).mono ?_); rintro e w2 ⟨rfl, hf⟩; have HF := Lib.hid hf; clear hf)
  go_ret
  exact ⟨rfl, HF.out⟩
theorem frD (w : World) : Fr (fun _ => False) w w.drew := ⟨rfl, rfl, Nat.le_refl _, fun _ _ _ => rfl⟩
/-- What an instruction's box holds. -/
structure InsBox (V : World) (b : Nat) (x0 x1 x2 x3 x4 x5 x6 x7 u : Int) (a : Option Addr) (n c : Nat) (lg : Bool) (W : World) : Prop where
  fr : Fr (fun _ => False) V W
  k0 : W.cell? ⟨b, 0, none⟩ = some (.int .i64 x0)
  k1 : W.cell? ⟨b, 1, none⟩ = some (.int .i64 x1)
  k2 : W.cell? ⟨b, 2, none⟩ = some (.int .i64 x2)
  k3 : W.cell? ⟨b, 3, none⟩ = some (.int .i64 x3)
  k4 : W.cell? ⟨b, 4, none⟩ = some (.int .i64 x4)
  k5 : W.cell? ⟨b, 5, none⟩ = some (.int .i64 x5)
  k6 : W.cell? ⟨b, 6, none⟩ = some (.int .i64 x6)
  k7 : W.cell? ⟨b, 7, none⟩ = some (.int .i64 x7)
  k8 : W.cell? ⟨b, 8, none⟩ = some (.int .u32 u)
  k9 : W.cell? ⟨b, 9, none⟩ = some (.slice a n c)
theorem InsBox.keep {V W W' : World} {b : Nat} {x0 x1 x2 x3 x4 x5 x6 x7 u : Int} {a : Option Addr} {n c : Nat} {lg : Bool} (h : InsBox V b x0 x1 x2 x3 x4 x5 x6 x7 u a n c lg W) (hf : Fr (fun _ => False) W W') :
    Fr (fun _ => False) V W' ∧ W'.cell? ⟨b, 0, none⟩ = some (.int .i64 x0) ∧ W'.cell? ⟨b, 1, none⟩ = some (.int .i64 x1) ∧ W'.cell? ⟨b, 2, none⟩ = some (.int .i64 x2) ∧ W'.cell? ⟨b, 3, none⟩ = some (.int .i64 x3) ∧ W'.cell? ⟨b, 4, none⟩ = some (.int .i64 x4) ∧ W'.cell? ⟨b, 5, none⟩ = some (.int .i64 x5) ∧ W'.cell? ⟨b, 6, none⟩ = some (.int .i64 x6) ∧ W'.cell? ⟨b, 7, none⟩ = some (.int .i64 x7) ∧ W'.cell? ⟨b, 8, none⟩ = some (.int .u32 u) ∧ W'.cell? ⟨b, 9, none⟩ = some (.slice a n c) :=
  ⟨h.fr.trans hf, hf.cell h.k0 id, hf.cell h.k1 id, hf.cell h.k2 id, hf.cell h.k3 id, hf.cell h.k4 id, hf.cell h.k5 id, hf.cell h.k6 id, hf.cell h.k7 id, hf.cell h.k8 id, hf.cell h.k9 id⟩
theorem ints8 (W : World) (x0 x1 x2 x3 x4 x5 x6 x7 : Int) : IntsAt (W.alloc (.cells #[.int .i64 x0, .int .i64 x1, .int .i64 x2, .int .i64 x3, .int .i64 x4, .int .i64 x5, .int .i64 x6, .int .i64 x7] 3)) (some ⟨W.heap.size, 0, none⟩) [x0, x1, x2, x3, x4, x5, x6, x7] := by
  intro k hk
  refine ⟨W.heap.size, 0, rfl, ?_⟩
  rw [Nat.zero_add]
  refine fcell W _ _ k _ ?_
  match k, hk with
  | 0, _ | 1, _ | 2, _ | 3, _ | 4, _ | 5, _ | 6, _ | 7, _ => rfl
  | n + 8, h => simp at h; omega
def InR (x : Int) : Prop := -9223372036854775808 ≤ x ∧ x ≤ 9223372036854775807
def lineL (n1 fu n2 : List UInt8) (lg : Bool) : List UInt8 := (((n1 ++ [32]) ++ fu) ++ n2) ++ (if lg then [32, 108, 111, 103] else []) ++ [10]
set_option maxRecDepth 100000 in
set_option maxHeartbeats 4000000 in
theorem line_any (x0 x1 x2 x3 x4 x5 x6 x7 u : Int) (a : Option Addr) (c : Nat) (l : List Int) (lg : Bool) (fu : List UInt8) (hfu : fu.length ≤ 21) (hl : l.length ≤ 1000) (hr : ∀ x ∈ [x0, x1, x2, x3, x4, x5, x6, x7], InR x) (hr9 : ∀ x ∈ l, InR x) (u0 : 0 ≤ u) (u1 : u ≤ 4294967295)
    (HF : ∀ w, TabW w → Calls Tryd.prog 57 #[.int .u64 u, .int .i64 10] w fun e w' => e = .returned (.string ⟨fu.toArray⟩) ∧ Fr (fun _ => False) w w') (w : World) (hat : IntsAt w a l) (ht : TabW w) :
    Calls Tryd.prog 39 #[.agg #[.int .i64 x0, .int .i64 x1, .int .i64 x2, .int .i64 x3, .int .i64 x4, .int .i64 x5, .int .i64 x6, .int .i64 x7, .int .u32 u, .slice a l.length c, .bool lg]] w fun e w' => e = .returned (.string ⟨(lineL (numsL [x0, x1, x2, x3, x4, x5, x6, x7]) fu (numsL l) lg).toArray⟩) ∧ Fr (fun _ => False) w w' := by
  have h1 := numsL_len [x0, x1, x2, x3, x4, x5, x6, x7] hr
  have h2 := numsL_len l hr9
  have s1 : (ByteArray.mk (numsL [x0, x1, x2, x3, x4, x5, x6, x7]).toArray).size ≤ 176 := h1
  have s2 : (ByteArray.mk (numsL l).toArray).size ≤ 22000 := Nat.le_trans h2 (by omega)
  have s3 : (ByteArray.mk fu.toArray).size ≤ 21 := hfu
  have HN1 : Hid (∀ V X, TabW V → Fr (fun _ => False) (V.alloc (.cells #[.int .i64 x0, .int .i64 x1, .int .i64 x2, .int .i64 x3, .int .i64 x4, .int .i64 x5, .int .i64 x6, .int .i64 x7] 3)) X → Calls Tryd.prog 40 #[.slice (some ⟨V.heap.size, 0, none⟩) 8 8] X fun e w' => e = .returned (.string ⟨(numsL [x0, x1, x2, x3, x4, x5, x6, x7]).toArray⟩) ∧ Fr (fun _ => False) X w') :=
    Lib.hid (fun V X hW hX => numbers_any _ 8 _ (by simp) hr _ ((ints8 V x0 x1 x2 x3 x4 x5 x6 x7).fr hX) (hW.fr ((fr_al (Fr.refl (fun _ => False) _) _).trans hX) id))
  have HN2 : Hid (∀ W, Fr (fun _ => False) w W → Calls Tryd.prog 40 #[.slice a l.length c] W fun e w' => e = .returned (.string ⟨(numsL l).toArray⟩) ∧ Fr (fun _ => False) W w') :=
    Lib.hid (fun W hW => numbers_any a c l (by omega) hr9 _ (hat.fr hW) (ht.fr hW id))
  have HFU := Lib.hid HF
  have HT := Lib.hid ht
  generalize numsL [x0, x1, x2, x3, x4, x5, x6, x7] = n1 at *
  generalize numsL l = n2 at *
  obtain ⟨N1, hN1⟩ : ∃ N : ByteArray, (⟨n1.toArray⟩ : ByteArray) = N := ⟨_, rfl⟩
  obtain ⟨N2, hN2⟩ : ∃ N : ByteArray, (⟨n2.toArray⟩ : ByteArray) = N := ⟨_, rfl⟩
  obtain ⟨FU, hFU⟩ : ∃ N : ByteArray, (⟨fu.toArray⟩ : ByteArray) = N := ⟨_, rfl⟩
  have hwu : IntKind.u64.wrap u = u := IntWalk.u64_in u (by omega)
  have HA : Hid (N1 ++ (⟨#[32]⟩ : ByteArray) ++ FU ++ N2 = ⟨(((n1 ++ [32]) ++ fu) ++ n2).toArray⟩) := Lib.hid (by rw [← hN1, ← hN2, ← hFU, str_app n1 [32], str_app, str_app])
  rw [hN1] at HN1 s1
  rw [hN2] at HN2 s2
  rw [hFU] at HFU s3
  have z3 : (N1 ++ (⟨#[32]⟩ : ByteArray) ++ FU ++ N2).size ≤ 22198 := by rw [ByteArray.size_append, ByteArray.size_append, ByteArray.size_append]; show N1.size + 1 + FU.size + N2.size ≤ 22198; omega
  have b1 : (N1.size + 1 > 9223372036854775807) = False := eq_false (by omega)
  have b2 : (N1.size + 1 + FU.size > 9223372036854775807) = False := eq_false (by omega)
  have b3 : (N1.size + 1 + FU.size + N2.size > 9223372036854775807) = False := eq_false (by omega)
  have c1 : (9223372036854775807 < N1.size + 1) = False := eq_false (by omega)
  have c2 : (9223372036854775807 < N1.size + 1 + FU.size) = False := eq_false (by omega)
  have c3 : (9223372036854775807 < N1.size + 1 + FU.size + N2.size) = False := eq_false (by omega)
  clear hN1 hN2 hFU
  generalize l.length = n at *
  clear hat ht hr hr9 HF h1 h2 hfu
  go_enter Tryd.func39, Tryd.ntmps39
  go_wp2
  have HBX : Hid (∀ j y, (#[.int .i64 x0, .int .i64 x1, .int .i64 x2, .int .i64 x3, .int .i64 x4, .int .i64 x5, .int .i64 x6, .int .i64 x7, .int .u32 u, .slice a n c, .bool lg] : Array Value)[j]? = some y → (w.alloc (.cells #[.int .i64 x0, .int .i64 x1, .int .i64 x2, .int .i64 x3, .int .i64 x4, .int .i64 x5, .int .i64 x6, .int .i64 x7, .int .u32 u, .slice a n c, .bool lg] 38)).cell? ⟨w.heap.size, j, none⟩ = some y) := Lib.hid (fun j y hj => fcell w _ _ j y hj)
  have HV : Hid (Fr (fun _ => False) w (w.alloc (.cells #[.int .i64 x0, .int .i64 x1, .int .i64 x2, .int .i64 x3, .int .i64 x4, .int .i64 x5, .int .i64 x6, .int .i64 x7, .int .u32 u, .slice a n c, .bool lg] 38))) := Lib.hid (fr_al (Fr.refl _ _) _)
  generalize w.alloc (.cells #[.int .i64 x0, .int .i64 x1, .int .i64 x2, .int .i64 x3, .int .i64 x4, .int .i64 x5, .int .i64 x6, .int .i64 x7, .int .u32 u, .slice a n c, .bool lg] 38) = V at *
  generalize w.heap.size = b at *
  have HB0 : InsBox V b x0 x1 x2 x3 x4 x5 x6 x7 u a n c lg V := ⟨Fr.refl _ _, HBX.out 0 _ rfl, HBX.out 1 _ rfl, HBX.out 2 _ rfl, HBX.out 3 _ rfl, HBX.out 4 _ rfl, HBX.out 5 _ rfl, HBX.out 6 _ rfl, HBX.out 7 _ rfl, HBX.out 8 _ rfl, HBX.out 9 _ rfl⟩
  have k10 := HBX.out 10 _ rfl
  go_cut [3] (fun v wx => v = .string (N1 ++ (⟨#[32]⟩ : ByteArray) ++ FU ++ N2) ∧ Hid (Fr (fun _ => False) V wx))
  case first =>
    obtain ⟨k, k0, k1, k2, k3, k4, k5, k6, k7, k8, k9⟩ := HB0.keep (Fr.refl _ _)
    go_region_held3 (fun w' => Fr (fun _ => False) V w' ∧ w'.cell? ⟨b, 0, none⟩ = some (.int .i64 x0) ∧ w'.cell? ⟨b, 1, none⟩ = some (.int .i64 x1) ∧ w'.cell? ⟨b, 2, none⟩ = some (.int .i64 x2) ∧ w'.cell? ⟨b, 3, none⟩ = some (.int .i64 x3) ∧ w'.cell? ⟨b, 4, none⟩ = some (.int .i64 x4) ∧ w'.cell? ⟨b, 5, none⟩ = some (.int .i64 x5) ∧ w'.cell? ⟨b, 6, none⟩ = some (.int .i64 x6) ∧ w'.cell? ⟨b, 7, none⟩ = some (.int .i64 x7) ∧ w'.cell? ⟨b, 8, none⟩ = some (.int .u32 u) ∧ w'.cell? ⟨b, 9, none⟩ = some (.slice a n c))
      (first | assumption | exact HB0.keep (Fr.refl _ _) | exact HB0.keep (frD _) | exact HB0.keep (And.left (by assumption)) | exact HB0.keep (fr_al (And.left (by assumption)) _) | exact HB0.keep ((fr_al (Fr.refl _ _) _).trans (frD _)) | exact HB0.keep (fr_al (Fr.refl _ _) _) | exact HB0.keep (by assumption))
      (first
        | (go_at_call 40; first
          | ((with_reducible refine Calls.mono (HN1.out V _ (HT.out.fr HV.out id) (by first | exact frD _ | exact Fr.refl _ _)) ?_); rintro e w2 ⟨rfl, hf⟩; have hg : Fr (fun _ => False) V w2 := (by first | exact ((fr_al (Fr.refl _ _) _).trans (frD _)).trans hf | exact (fr_al (Fr.refl _ _) _).trans hf))
          | ((with_reducible refine (HN2.out _ (HV.out.trans (by first | assumption | exact And.left (by assumption)))).mono ?_); rintro e w4 ⟨rfl, hf⟩; have hg : Fr (fun _ => False) V w4 := Fr.trans (by assumption) hf))
        | (go_at_call 57; (with_reducible refine (HFU.out _ (HT.out.fr (HV.out.trans (by first | assumption | exact And.left (by assumption))) id)).mono ?_); rintro e w3 ⟨rfl, hf⟩; have hg : Fr (fun _ => False) V w3 := Fr.trans (by assumption) hf))
    all_goals
      go_wp2_with fail
      go_meet
      exact ⟨rfl, Lib.hid (by assumption)⟩
  case rest =>
    obtain ⟨rfl, HX⟩ := hcut
    have q10 := HX.out.cell k10 id
    have HSA := Lib.hid (fun a b => str_app a b)
    clear HB0
    generalize hA3 : N1 ++ (⟨#[32]⟩ : ByteArray) ++ FU ++ N2 = A3 at *
    clear hA3
    cases lg
    · go_wp2
      go_ret
      exact ⟨by rw [HA.out]; show Ending.returned (Value.string (ByteArray.mk _ ++ ByteArray.mk [10].toArray)) = _; rw [str_app]; simp [lineL], HV.out.trans HX.out⟩
    · have z4 : (A3 ++ (⟨#[32, 108, 111, 103]⟩ : ByteArray)).size ≤ 22202 := by rw [ByteArray.size_append]; show A3.size + 4 ≤ 22202; omega
      go_wp2
      go_ret
      exact ⟨by rw [HA.out]; show Ending.returned (Value.string (ByteArray.mk _ ++ ByteArray.mk [32, 108, 111, 103].toArray ++ ByteArray.mk [10].toArray)) = _; rw [str_app, str_app]; simp [lineL], HV.out.trans HX.out⟩
end Go.Proofs.YtnhdchagoabjeaaDoor
