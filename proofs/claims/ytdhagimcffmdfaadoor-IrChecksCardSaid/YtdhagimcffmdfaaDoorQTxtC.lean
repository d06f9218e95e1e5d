/-
  A number with a blank ahead (layer 13): the document's own. The lines of a procedure (layer 13): the document's own.
-/
import Derived.Test.YtdhagimcffmdfaaDoorQTxtA
import Derived.Test.YtdhagimcffmdfaaDoorQTxtB
import Derived.Deep.QuietTactic
import Derived.BigQuiet
namespace Go.Proofs.YtdhagimcffmdfaaDoor
open Go.RowKit
set_option linter.unusedVariables false
set_option linter.unusedSimpArgs false
set_option maxRecDepth 100000 in
set_option maxHeartbeats 4000000 in
theorem rnum_any (n : Int) (h0 : -9223372036854775807 ≤ n) (h1 : n ≤ 9223372036854775807) (w : World) : Calls Tryd.prog 43 #[.int .i64 n] w fun e w' => e = .returned (.string ⟨(32 :: Lib.itoa n).toArray⟩) ∧ w' = w := by
  have HP := Lib.hid (num_any n h0 h1)
  have hl := Lib.itoa_length_le n (by omega) h1
  have HC := Lib.hid (str_cons 32 (Lib.itoa n))
  obtain ⟨S, hS⟩ : ∃ S : ByteArray, (⟨(Lib.itoa n).toArray⟩ : ByteArray) = S := ⟨_, rfl⟩
  have hl2 : S.size ≤ 21 := by rw [← hS]; exact hl
  rw [hS] at HC HP
  have HE := Lib.hid HC.out.symm
  clear hl hS HC h0 h1
  go_enter Tryd.func43, Tryd.ntmps43
  go_wp2_with (go_at_call 42; (with_reducible refine (HP.out _).mono ?_); rintro e w2 ⟨rfl, rfl⟩)
  go_ret
  exact ⟨by rw [HE.out]; rfl, rfl⟩
/-- How the document spells numbers behind one another. -/
theorem numsL_cons (x : Int) (l : List Int) : numsL (x :: l) = (32 :: Lib.itoa x) ++ numsL l := by simp [numsL]
/-- What the document's num writes, as a string. -/
def nS (x : Int) : ByteArray := ⟨(32 :: Lib.itoa x).toArray⟩
theorem nS_size {x : Int} (h : InR x) : (nS x).size ≤ 22 := by
  have := Lib.itoa_length_le x h.1 h.2
  show (32 :: Lib.itoa x).length ≤ 22
  simp; omega
theorem app_nS (a : List UInt8) (x : Int) : (⟨a.toArray⟩ : ByteArray) ++ nS x = ⟨(a ++ (32 :: Lib.itoa x)).toArray⟩ := str_app _ _
theorem i_take {l : List Int} {k : Nat} (h : k < l.length) : l.take (k + 1) = l.take k ++ [l.getD k 0] := by
  rw [List.take_add_one, List.getElem?_eq_getElem h, List.getD_eq_getElem?_getD, List.getElem?_eq_getElem h]; rfl
/-- Numbers that can be turned round. -/
def Sm (x : Int) : Prop := -9223372036854775807 ≤ x ∧ x ≤ 9223372036854775807
theorem Sm.inR {x : Int} (h : Sm x) : InR x := ⟨by have := h.1; omega, h.2⟩
structure Inn.sm (i : Inn) : Prop where
  r : ∀ x ∈ i.l8, Sm x
  ra : ∀ x ∈ i.args, Sm x
structure Bk.sm (b : Bk) : Prop where
  i : ∀ x ∈ b.ins, x.sm
  r : ∀ x ∈ [b.en, b.a, b.t, b.el], Sm x
set_option maxRecDepth 100000 in
set_option maxHeartbeats 8000000 in
theorem rtext_any (nm vd pa rg ob : Value) (ab : Option Addr) (cb : Nat) (l : List Bk) (hl : l.length ≤ 1000) (hok : ∀ x ∈ l, x.ok) (hsm : ∀ x ∈ l, x.sm) (w : World) (hat : BkL w ab l) :
    Calls Tryd.prog 22 #[.agg #[nm, vd, pa, rg, ob, .slice ab l.length cb]] w fun e w' => e = .returned (.string ⟨(textL l l.length).toArray⟩) ∧ Fr (fun _ => False) w w' := by
  have HA := Lib.hid hat
  have HOK := Lib.hid hok
  have HSM := Lib.hid hsm
  obtain ⟨n, hn⟩ : ∃ n, l.length = n := ⟨_, rfl⟩
  have HN := Lib.hid hn
  rw [hn] at hl ⊢
  clear hat hok hsm hn
  go_enter Tryd.func22, Tryd.ntmps22
  go_wp2
  have k5 := fcell w #[nm, vd, pa, rg, ob, .slice ab n cb] 50 5 _ rfl
  have HF0 : Hid (Fr (fun _ => False) w (w.alloc (.cells #[nm, vd, pa, rg, ob, .slice ab n cb] 50))) := Lib.hid (fr_al (Fr.refl _ _) _)
  generalize w.alloc (.cells #[nm, vd, pa, rg, ob, .slice ab n cb] 50) = W0 at *
  go_loopw [3, 4] (fun v q wr => ∃ k : Nat, v = .string ⟨(textL l k).toArray⟩ ∧ q = .int .i64 k ∧ k ≤ n ∧ Hid (Fr (fun _ => False) W0 wr)) (fun _ q _ => n - (intOf q).toNat)
  case atStart => exact ⟨0, rfl, rfl, Nat.zero_le _, Lib.hid (Fr.refl _ _)⟩
  case round =>
    obtain ⟨k, rfl, rfl, hk, HW⟩ := hrel
    have p5 := HW.out.cell k5 id
    by_cases hlt : k < n
    · have hkl : k < l.length := by rw [HN.out]; exact hlt
      obtain ⟨g, o, rfl, ⟨ai, ci, c0', HIL⟩, c1', c2', c3', c4'⟩ := HA.out k hkl
      have HWW := Lib.hid (HF0.out.trans HW.out)
      have c0 := HWW.out.cell c0' id
      have c1 := HWW.out.cell c1' id
      have c2 := HWW.out.cell c2' id
      have c3 := HWW.out.cell c3' id
      have c4 := HWW.out.cell c4' id
      clear c0' c1' c2' c3' c4'
      have hbok := HOK.out _ (getD_mem hkl)
      have hbsm := HSM.out _ (getD_mem hkl)
      have htl := textL_len l HOK.out k (by omega) (by rw [HN.out]; omega)
      have HTX : Hid (textL l (k + 1) = textL l k ++ headL k ++ inssL (l.getD k bk0).ins ++ tailL (l.getD k bk0)) := Lib.hid rfl
      generalize l.getD k bk0 = x at *
      obtain ⟨ins, en, a, t, el⟩ := x
      simp only at c0 c1 c2 c3 c4 HIL
      have HOB := Lib.hid hbok
      have HSB := Lib.hid hbsm
      have HIL := Lib.hid HIL
      have hni := hbok.n
      simp only at hni
      obtain ⟨ni, hnn⟩ : ∃ ni, ins.length = ni := ⟨_, rfl⟩
      have HNI := Lib.hid hnn
      rw [hnn] at c0 hni
      have HIT := Lib.hid (fun W => num_any (k : Int) (by omega) (by omega) W)
      have hit := Lib.itoa_length_le (k : Int) (by omega) (by omega)
      have hcat : (⟨(textL l k).toArray⟩ : ByteArray) ++ (⟨#[98]⟩ : ByteArray) ++ (⟨(Lib.itoa (k : Int)).toArray⟩ : ByteArray) ++ (⟨#[58, 10]⟩ : ByteArray) = ⟨(textL l k ++ headL k).toArray⟩ := by
        rw [show (⟨#[98]⟩ : ByteArray) = ⟨[98].toArray⟩ from rfl, show (⟨#[58, 10]⟩ : ByteArray) = ⟨[58, 10].toArray⟩ from rfl, str_app, str_app, str_app, show headL k = ([98] ++ Lib.itoa (k : Int)) ++ [58, 10] from rfl]
        simp
      have HCAT := Lib.hid hcat
      have ssz : (⟨(textL l k).toArray⟩ : ByteArray).size ≤ 22301000 * k := htl
      have isz : (⟨(Lib.itoa (k : Int)).toArray⟩ : ByteArray).size ≤ 21 := hit
      have hpl : (textL l k ++ headL k).length ≤ 22301000 * k + 24 := by rw [List.length_append]; have := headL_len k (by omega); omega
      generalize (⟨(textL l k).toArray⟩ : ByteArray) = S at *
      generalize (⟨(Lib.itoa (k : Int)).toArray⟩ : ByteArray) = IX at *
      obtain ⟨pre, hpre⟩ : ∃ pre, textL l k ++ headL k = pre := ⟨_, rfl⟩
      rw [hpre] at HTX HCAT hpl
      clear hbok hbsm hnn hit htl hkl hcat hpre
      go_wp2_with (go_at_call 42; (with_reducible refine (HIT.out _).mono ?_); rintro e w2 ⟨rfl, rfl⟩)
      have e0 := fcell wr #[.slice ai ni ci, .int .i64 en, .int .i64 a, .int .i64 t, .int .i64 el] 41 0 _ rfl
      have e1 := fcell wr #[.slice ai ni ci, .int .i64 en, .int .i64 a, .int .i64 t, .int .i64 el] 41 1 _ rfl
      have e2 := fcell wr #[.slice ai ni ci, .int .i64 en, .int .i64 a, .int .i64 t, .int .i64 el] 41 2 _ rfl
      have e3 := fcell wr #[.slice ai ni ci, .int .i64 en, .int .i64 a, .int .i64 t, .int .i64 el] 41 3 _ rfl
      have e4 := fcell wr #[.slice ai ni ci, .int .i64 en, .int .i64 a, .int .i64 t, .int .i64 el] 41 4 _ rfl
      have HF1 : Hid (Fr (fun _ => False) W0 (wr.alloc (.cells #[.slice ai ni ci, .int .i64 en, .int .i64 a, .int .i64 t, .int .i64 el] 41))) := Lib.hid (fr_al HW.out _)
      clear p5 c0 c1 c2 c3 c4 HWW HW
      generalize wr.alloc (.cells #[.slice ai ni ci, .int .i64 en, .int .i64 a, .int .i64 t, .int .i64 el] 41) = W1 at *
      generalize wr.heap.size = bx at *
      go_loopw [3, 6] (fun v q wx => ∃ j : Nat, v = .string ⟨(pre ++ inssL (ins.take j)).toArray⟩ ∧ q = .int .i64 j ∧ j ≤ ni ∧ Hid (Fr (fun _ => False) W1 wx)) (fun _ q _ => ni - (intOf q).toNat)
      case atStart => exact ⟨0, by rw [HCAT.out, show ins.take 0 = [] from rfl, show inssL [] = [] from rfl, List.append_nil], rfl, Nat.zero_le _, Lib.hid (Fr.refl _ _)⟩
      case round =>
        obtain ⟨j, rfl, rfl, hj, HJ⟩ := hrel
        have g0 := HJ.out.cell e0 id
        have HWJ := Lib.hid ((HF0.out.trans HF1.out).trans HJ.out)
        have htkl : (inssL (ins.take j)).length ≤ 22300 * j := by
          have h1 := inssL_len (ins.take j) (fun y hy => HOB.out.i y (List.mem_of_mem_take hy))
          have h2 : (ins.take j).length ≤ j := List.length_take_le _ _
          omega
        by_cases hji : j < ni
        · have hjl : j < ins.length := by rw [HNI.out]; exact hji
          obtain ⟨gi, oi, rfl, hins⟩ := (HIL.out.fr HWJ.out) j hjl
          have hmi := getD_memI (l := ins) (k := j) hjl
          have hiok := HOB.out.i _ hmi
          have hism := HSB.out.i _ hmi
          have HTK : Hid (inssL (ins.take (j + 1)) = inssL (ins.take j) ++ innL (ins.getD j inn0)) := Lib.hid (by rw [inn_take hjl, inssL_snoc])
          generalize ins.getD j inn0 = ii at *
          obtain ⟨x0, x1, x2, x3, x4, x5, x6, x7, u, args, lg⟩ := ii
          obtain ⟨d0, d1, d2, d3, d4, d5, d6, d7, d8, ⟨a9, c9, d9, da⟩, d10⟩ := hins
          simp only at d0 d1 d2 d3 d4 d5 d6 d7 d8 d9 da d10
          have u0 := hiok.u0
          have u1 := hiok.u1
          have hn9 := hiok.n
          simp only at u0 u1 hn9
          have hsr := hism.r
          have hsa := hism.ra
          simp only [Inn.l8] at hsr hsa
          have q0 := Lib.hid (fun W => rnum_any x0 (hsr x0 (by simp)).1 (hsr x0 (by simp)).2 W)
          have z0 := nS_size (hsr x0 (by simp)).inR
          have q1 := Lib.hid (fun W => rnum_any x1 (hsr x1 (by simp)).1 (hsr x1 (by simp)).2 W)
          have z1 := nS_size (hsr x1 (by simp)).inR
          have q2 := Lib.hid (fun W => rnum_any x2 (hsr x2 (by simp)).1 (hsr x2 (by simp)).2 W)
          have z2 := nS_size (hsr x2 (by simp)).inR
          have q3 := Lib.hid (fun W => rnum_any x3 (hsr x3 (by simp)).1 (hsr x3 (by simp)).2 W)
          have z3 := nS_size (hsr x3 (by simp)).inR
          have q4 := Lib.hid (fun W => rnum_any x4 (hsr x4 (by simp)).1 (hsr x4 (by simp)).2 W)
          have z4 := nS_size (hsr x4 (by simp)).inR
          have q5 := Lib.hid (fun W => rnum_any x5 (hsr x5 (by simp)).1 (hsr x5 (by simp)).2 W)
          have z5 := nS_size (hsr x5 (by simp)).inR
          have q6 := Lib.hid (fun W => rnum_any x6 (hsr x6 (by simp)).1 (hsr x6 (by simp)).2 W)
          have z6 := nS_size (hsr x6 (by simp)).inR
          have q7 := Lib.hid (fun W => rnum_any x7 (hsr x7 (by simp)).1 (hsr x7 (by simp)).2 W)
          have z7 := nS_size (hsr x7 (by simp)).inR
          have q8 := Lib.hid (fun W => rnum_any u (by omega) (by omega) W)
          have z8 : (nS u).size ≤ 22 := nS_size ⟨by omega, by omega⟩
          have HSA := Lib.hid hsa
          have HDA := Lib.hid (fun W (h : Fr (fun _ => False) wr W) => da.fr h)
          have hll : innL ⟨x0, x1, x2, x3, x4, x5, x6, x7, u, args, lg⟩ = ((numsL [x0, x1, x2, x3, x4, x5, x6, x7] ++ (32 :: Lib.itoa u)) ++ numsL args) ++ (if lg then [32, 108, 111, 103] else []) ++ [10] := by
            show lineL (numsL [x0, x1, x2, x3, x4, x5, x6, x7]) (Lib.decDigits u.toNat) (numsL args) lg = _
            rw [show Lib.itoa u = Lib.decDigits u.toNat by unfold Lib.itoa; rw [if_neg (by omega)]]
            simp [lineL]
          have HLL := Lib.hid hll
          have HNA : Hid (numsL args = numsL (args.take args.length)) := Lib.hid (by rw [List.take_length])
          obtain ⟨n9, hn9'⟩ : ∃ n9, args.length = n9 := ⟨_, rfl⟩
          have HN9 := Lib.hid hn9'
          rw [hn9'] at d9 hn9 HNA
          have hcat : (⟨(pre ++ inssL (ins.take j)).toArray⟩ : ByteArray) ++ nS x0 ++ nS x1 ++ nS x2 ++ nS x3 ++ nS x4 ++ nS x5 ++ nS x6 ++ nS x7 ++ nS u = ⟨(pre ++ inssL (ins.take j) ++ (numsL [x0, x1, x2, x3, x4, x5, x6, x7] ++ (32 :: Lib.itoa u))).toArray⟩ := by
            rw [app_nS, app_nS, app_nS, app_nS, app_nS, app_nS, app_nS, app_nS, app_nS]
            simp [numsL]
          have HCA := Lib.hid hcat
          have psz : (⟨(pre ++ inssL (ins.take j)).toArray⟩ : ByteArray).size ≤ 22301000 * k + 24 + 22300 * j := by
            show (pre ++ inssL (ins.take j)).length ≤ _
            rw [List.length_append]; omega
          have q0' := q0.out
          clear hsr hsa hism hiok hmi da hll hn9' hcat htkl hjl q0'
          change Hid (∀ W, Calls Tryd.prog 43 #[.int .i64 x0] W fun e w' => e = .returned (.string (nS x0)) ∧ w' = W) at q0
          change Hid (∀ W, Calls Tryd.prog 43 #[.int .i64 x1] W fun e w' => e = .returned (.string (nS x1)) ∧ w' = W) at q1
          change Hid (∀ W, Calls Tryd.prog 43 #[.int .i64 x2] W fun e w' => e = .returned (.string (nS x2)) ∧ w' = W) at q2
          change Hid (∀ W, Calls Tryd.prog 43 #[.int .i64 x3] W fun e w' => e = .returned (.string (nS x3)) ∧ w' = W) at q3
          change Hid (∀ W, Calls Tryd.prog 43 #[.int .i64 x4] W fun e w' => e = .returned (.string (nS x4)) ∧ w' = W) at q4
          change Hid (∀ W, Calls Tryd.prog 43 #[.int .i64 x5] W fun e w' => e = .returned (.string (nS x5)) ∧ w' = W) at q5
          change Hid (∀ W, Calls Tryd.prog 43 #[.int .i64 x6] W fun e w' => e = .returned (.string (nS x6)) ∧ w' = W) at q6
          change Hid (∀ W, Calls Tryd.prog 43 #[.int .i64 x7] W fun e w' => e = .returned (.string (nS x7)) ∧ w' = W) at q7
          change Hid (∀ W, Calls Tryd.prog 43 #[.int .i64 u] W fun e w' => e = .returned (.string (nS u)) ∧ w' = W) at q8
          generalize nS x0 = N0 at *
          generalize nS x1 = N1 at *
          generalize nS x2 = N2 at *
          generalize nS x3 = N3 at *
          generalize nS x4 = N4 at *
          generalize nS x5 = N5 at *
          generalize nS x6 = N6 at *
          generalize nS x7 = N7 at *
          generalize nS u = N8 at *
          obtain ⟨P, hP⟩ : ∃ P : ByteArray, (⟨(pre ++ inssL (ins.take j)).toArray⟩ : ByteArray) = P := ⟨_, rfl⟩
          rw [hP] at HCA psz ⊢
          clear hP
          go_wp2
          have FX : Hid (∀ (i : Nat) (y : Value), (#[.int .i64 x0, .int .i64 x1, .int .i64 x2, .int .i64 x3, .int .i64 x4, .int .i64 x5, .int .i64 x6, .int .i64 x7, .int .u32 u, .slice a9 n9 c9, .bool lg] : Array Value)[i]? = some y → (wr.alloc (.cells #[.int .i64 x0, .int .i64 x1, .int .i64 x2, .int .i64 x3, .int .i64 x4, .int .i64 x5, .int .i64 x6, .int .i64 x7, .int .u32 u, .slice a9 n9 c9, .bool lg] 38)).cell? ⟨wr.heap.size, i, none⟩ = some y) := Lib.hid (fun i y h => fcell wr _ _ i y h)
          have HF2 : Hid (Fr (fun _ => False) wr (wr.alloc (.cells #[.int .i64 x0, .int .i64 x1, .int .i64 x2, .int .i64 x3, .int .i64 x4, .int .i64 x5, .int .i64 x6, .int .i64 x7, .int .u32 u, .slice a9 n9 c9, .bool lg] 38))) := Lib.hid (fr_al (Fr.refl _ _) _)
          generalize wr.alloc (.cells #[.int .i64 x0, .int .i64 x1, .int .i64 x2, .int .i64 x3, .int .i64 x4, .int .i64 x5, .int .i64 x6, .int .i64 x7, .int .u32 u, .slice a9 n9 c9, .bool lg] 38) = W2 at *
          generalize wr.heap.size = ib at *
          have f0 := FX.out 0 _ rfl
          have f1 := FX.out 1 _ rfl
          have f2 := FX.out 2 _ rfl
          have f3 := FX.out 3 _ rfl
          have f4 := FX.out 4 _ rfl
          have f5 := FX.out 5 _ rfl
          have f6 := FX.out 6 _ rfl
          have f7 := FX.out 7 _ rfl
          have f8 := FX.out 8 _ rfl
          have f9 := FX.out 9 _ rfl
          have f10 := FX.out 10 _ rfl
          have HJ2 := Lib.hid (HJ.out.trans HF2.out)
          have HD2 := Lib.hid (fun W (h : Fr (fun _ => False) W2 W) => HDA.out W (HF2.out.trans h))
          have hwu : IntKind.i64.wrap u = u := IntWalk.i64_in u (by omega)
          obtain ⟨pp, hpp⟩ : ∃ pp, pre ++ inssL (ins.take j) ++ (numsL [x0, x1, x2, x3, x4, x5, x6, x7] ++ (32 :: Lib.itoa u)) = pp := ⟨_, rfl⟩
          have HEN : Hid (pre ++ inssL (ins.take (j + 1)) = (pp ++ numsL args) ++ (if lg then [32, 108, 111, 103] else []) ++ [10]) := Lib.hid (by rw [HTK.out, HLL.out, ← hpp]; simp)
          rw [hpp] at HCA
          have hpl2 : pp.length ≤ 22301000 * k + 24 + 22300 * j + 198 := by
            have e := congrArg ByteArray.size HCA.out
            simp only [ByteArray.size_append] at e
            have e2 : (⟨pp.toArray⟩ : ByteArray).size = pp.length := rfl
            omega
          clear d0 d1 d2 d3 d4 d5 d6 d7 d8 d9 d10 g0 hpp
          go_quiet (first | (go_at_call 43; exact Calls.quiet_of_same (q0.out _)) | (go_at_call 43; exact Calls.quiet_of_same (q1.out _)) | (go_at_call 43; exact Calls.quiet_of_same (q2.out _)) | (go_at_call 43; exact Calls.quiet_of_same (q3.out _)) | (go_at_call 43; exact Calls.quiet_of_same (q4.out _)) | (go_at_call 43; exact Calls.quiet_of_same (q5.out _)) | (go_at_call 43; exact Calls.quiet_of_same (q6.out _)) | (go_at_call 43; exact Calls.quiet_of_same (q7.out _)) | (go_at_call 43; exact Calls.quiet_of_same (q8.out _)))
          go_wp2
          go_loopw [3, 8] (fun v q wx => ∃ i : Nat, v = .string ⟨(pp ++ numsL (args.take i)).toArray⟩ ∧ q = .int .i64 i ∧ i ≤ n9 ∧ Hid (Fr (fun _ => False) W2 wx)) (fun _ q _ => n9 - (intOf q).toNat)
          case atStart => exact ⟨0, by rw [HCA.out]; simp [numsL], rfl, Nat.zero_le _, Lib.hid ((Fr.refl _ _).drewN _)⟩
          case round =>
            obtain ⟨i, rfl, rfl, hi, HI⟩ := hrel
            have t9 := HI.out.cell f9 id
            have t10 := HI.out.cell f10 id
            have hnl : (numsL (args.take i)).length ≤ 22 * 1000 := by
              have h1 := numsL_len (args.take i) (fun y hy => (HSA.out y (List.mem_of_mem_take hy)).inR)
              have h2 : (args.take i).length ≤ i := List.length_take_le _ _
              omega
            have hsz : (⟨(pp ++ numsL (args.take i)).toArray⟩ : ByteArray).size ≤ pp.length + 22000 := by
              show (pp ++ numsL (args.take i)).length ≤ _
              rw [List.length_append]; omega
            by_cases hii : i < n9
            · have hil : i < args.length := by rw [HN9.out]; exact hii
              obtain ⟨g9, o9, rfl, C⟩ := (HD2.out _ HI.out) i hil
              have hsx := HSA.out (args.getD i 0) (by rw [List.getD_eq_getElem?_getD, List.getElem?_eq_getElem hil]; exact List.getElem_mem hil)
              have HTI : Hid (numsL (args.take (i + 1)) = numsL (args.take i) ++ (32 :: Lib.itoa (args.getD i 0))) := Lib.hid (by rw [i_take hil, numsL_snoc])
              generalize args.getD i 0 = y at *
              have qy := Lib.hid (fun W => rnum_any y hsx.1 hsx.2 W)
              have zy := nS_size hsx.inR
              change Hid (∀ W, Calls Tryd.prog 43 #[.int .i64 y] W fun e w' => e = .returned (.string (nS y)) ∧ w' = W) at qy
              have HCY : Hid ((⟨(pp ++ numsL (args.take i)).toArray⟩ : ByteArray) ++ nS y = ⟨(pp ++ numsL (args.take (i + 1))).toArray⟩) := Lib.hid (by rw [app_nS, HTI.out, List.append_assoc])
              generalize nS y = NY at *
              obtain ⟨Q, hQ⟩ : ∃ Q : ByteArray, (⟨(pp ++ numsL (args.take i)).toArray⟩ : ByteArray) = Q := ⟨_, rfl⟩
              rw [hQ] at HCY hsz ⊢
              clear hQ hnl hil hsx
              go_wp2_with (go_at_call 43; (with_reducible refine (qy.out _).mono ?_); rintro e w9 ⟨rfl, rfl⟩)
              go_roundw
              case rel => exact ⟨i + 1, by rw [HCY.out], by go_num, by omega, HI⟩
              case measure => simp [intOf]; omega
            · obtain rfl : i = n9 := by omega
              have hta : args.take i = args := by rw [← HN9.out, List.take_length]
              rw [hta] at hsz ⊢
              have HZ := Lib.hid (HJ2.out.trans HI.out)
              cases lg
              · have HE : Hid ((⟨(pp ++ numsL args).toArray⟩ : ByteArray) ++ (⟨#[10]⟩ : ByteArray) = ⟨(pre ++ inssL (ins.take (j + 1))).toArray⟩) := Lib.hid (by rw [HEN.out, show (⟨#[10]⟩ : ByteArray) = ⟨[10].toArray⟩ from rfl, str_app]; simp)
                obtain ⟨Q, hQ⟩ : ∃ Q : ByteArray, (⟨(pp ++ numsL args).toArray⟩ : ByteArray) = Q := ⟨_, rfl⟩
                rw [hQ] at HE hsz ⊢
                clear hQ hnl hta
                go_wp2
                go_roundw
                case rel => exact ⟨j + 1, by rw [HE.out], by go_num, by omega, HZ⟩
                case measure => simp [intOf]; omega
              · have HE : Hid ((⟨(pp ++ numsL args).toArray⟩ : ByteArray) ++ (⟨#[32, 108, 111, 103]⟩ : ByteArray) ++ (⟨#[10]⟩ : ByteArray) = ⟨(pre ++ inssL (ins.take (j + 1))).toArray⟩) := Lib.hid (by rw [HEN.out, show (⟨#[10]⟩ : ByteArray) = ⟨[10].toArray⟩ from rfl, show (⟨#[32, 108, 111, 103]⟩ : ByteArray) = ⟨[32, 108, 111, 103].toArray⟩ from rfl, str_app, str_app]; simp)
                obtain ⟨Q, hQ⟩ : ∃ Q : ByteArray, (⟨(pp ++ numsL args).toArray⟩ : ByteArray) = Q := ⟨_, rfl⟩
                rw [hQ] at HE hsz ⊢
                clear hQ hnl hta
                go_wp2
                go_roundw
                case rel => exact ⟨j + 1, by rw [HE.out], by go_num, by omega, HZ⟩
                case measure => simp [intOf]; omega
        · obtain rfl : j = ni := by omega
          have htk : ins.take j = ins := by rw [← HNI.out, List.take_length]
          have h1 := HJ.out.cell e1 id
          have h2 := HJ.out.cell e2 id
          have h3 := HJ.out.cell e3 id
          have h4 := HJ.out.cell e4 id
          have hr4 := HSB.out.r
          simp only at hr4
          have m0 := Lib.hid (fun W => rnum_any en (hr4 en (by simp)).1 (hr4 en (by simp)).2 W)
          have m1 := Lib.hid (fun W => rnum_any a (hr4 a (by simp)).1 (hr4 a (by simp)).2 W)
          have m2 := Lib.hid (fun W => rnum_any t (hr4 t (by simp)).1 (hr4 t (by simp)).2 W)
          have m3 := Lib.hid (fun W => rnum_any el (hr4 el (by simp)).1 (hr4 el (by simp)).2 W)
          have z0 := nS_size (hr4 en (by simp)).inR
          have z1 := nS_size (hr4 a (by simp)).inR
          have z2 := nS_size (hr4 t (by simp)).inR
          have z3 := nS_size (hr4 el (by simp)).inR
          have HCB : Hid ((⟨(pre ++ inssL (ins.take j)).toArray⟩ : ByteArray) ++ (⟨#[32, 101, 110, 100]⟩ : ByteArray) ++ nS en ++ nS a ++ nS t ++ nS el ++ (⟨#[10]⟩ : ByteArray) = ⟨(textL l (k + 1)).toArray⟩) := Lib.hid (by
            rw [htk, HTX.out, show (⟨#[32, 101, 110, 100]⟩ : ByteArray) = ⟨[32, 101, 110, 100].toArray⟩ from rfl, show (⟨#[10]⟩ : ByteArray) = ⟨[10].toArray⟩ from rfl, str_app, app_nS, app_nS, app_nS, app_nS, str_app]
            simp [tailL, numsL])
          have psz : (⟨(pre ++ inssL (ins.take j)).toArray⟩ : ByteArray).size ≤ 22301000 * k + 24 + 22300 * j := by
            show (pre ++ inssL (ins.take j)).length ≤ _
            rw [List.length_append]; omega
          change Hid (∀ W, Calls Tryd.prog 43 #[.int .i64 en] W fun e w' => e = .returned (.string (nS en)) ∧ w' = W) at m0
          change Hid (∀ W, Calls Tryd.prog 43 #[.int .i64 a] W fun e w' => e = .returned (.string (nS a)) ∧ w' = W) at m1
          change Hid (∀ W, Calls Tryd.prog 43 #[.int .i64 t] W fun e w' => e = .returned (.string (nS t)) ∧ w' = W) at m2
          change Hid (∀ W, Calls Tryd.prog 43 #[.int .i64 el] W fun e w' => e = .returned (.string (nS el)) ∧ w' = W) at m3
          generalize nS en = M0 at *
          generalize nS a = M1 at *
          generalize nS t = M2 at *
          generalize nS el = M3 at *
          obtain ⟨Q, hQ⟩ : ∃ Q : ByteArray, (⟨(pre ++ inssL (ins.take j)).toArray⟩ : ByteArray) = Q := ⟨_, rfl⟩
          rw [hQ] at HCB psz ⊢
          have HG := Lib.hid (HF1.out.trans HJ.out)
          clear hQ htk hr4 htkl
          go_wp2
          go_quiet (first | (go_at_call 43; exact Calls.quiet_of_same (m0.out _)) | (go_at_call 43; exact Calls.quiet_of_same (m1.out _)) | (go_at_call 43; exact Calls.quiet_of_same (m2.out _)) | (go_at_call 43; exact Calls.quiet_of_same (m3.out _)))
          go_wp2
          go_roundw
          case rel => exact ⟨k + 1, by rw [HCB.out], by go_num, by omega, Lib.hid (HG.out.drewN _)⟩
          case measure => simp [intOf]; omega
    · obtain rfl : k = n := by omega
      go_wp2
      go_ret
      exact ⟨rfl, HF0.out.trans HW.out⟩
end Go.Proofs.YtdhagimcffmdfaaDoor
