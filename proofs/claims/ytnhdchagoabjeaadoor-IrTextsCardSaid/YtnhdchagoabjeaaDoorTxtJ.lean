/-
  The lines of a procedure and how large it is (layer 13): the law's walk.
-/
import Derived.Test.YtnhdchagoabjeaaDoorTxtI
namespace Go.Proofs.YtnhdchagoabjeaaDoor
open Go.RowKit
set_option linter.unusedVariables false
set_option linter.unusedSimpArgs false
theorem fr_drw {F : Nat → Prop} {w w1 : World} (h : Fr F w w1) : Fr F w w1.drew := h.drewN 1
theorem textF (u : Int) (h0 : 0 ≤ u) (h1 : u ≤ 4294967295) (w : World) (ht : TabW w) : Calls Tryd.prog 57 #[.int .u64 u, .int .i64 10] w fun e w' => e = .returned (.string ⟨(Lib.decDigits u.toNat).toArray⟩) ∧ Fr (fun _ => False) w w' := by
  obtain ⟨k, rfl⟩ := Int.eq_ofNat_of_zero_le h0
  have := fmtu_any k (by omega) w ht
  simpa using this
set_option maxRecDepth 100000 in
set_option maxHeartbeats 16000000 in
theorem texts_walk (nm : ByteArray) (vd : Bool) (pa rg : Int) (oa ab : Option Addr) (on oc cb : Nat) (l : List Bk) (hl : l.length ≤ 9223372036854775807) (hon : on ≤ 9223372036854775807) (hwd : ∀ x ∈ l, x.wide) (w : World) (hat : BkL w ab l) (ht : TabW w) :
    Calls Tryd.prog 5 #[.agg #[.string nm, .bool vd, .int .i64 pa, .int .i64 rg, .slice oa on oc, .slice ab l.length cb]] w fun e w' => e = .returned (.bool true) ∧ Fr (fun _ => False) w w' := by
  obtain ⟨n, hn⟩ : ∃ n, l.length = n := ⟨_, rfl⟩
  rw [hn]
  have F0 : Hid (Fr (fun _ => False) w (w.alloc (.cells #[.string nm, .bool vd, .int .i64 pa, .int .i64 rg, .slice oa on oc, .slice ab n cb] 50))) := Lib.hid (fr_al (Fr.refl _ _) _)
  have C1 : Hid (∀ (j : Nat) (y : Value), (#[.string nm, .bool vd, .int .i64 pa, .int .i64 rg, .slice oa on oc, .slice ab n cb] : Array Value)[j]? = some y → (w.alloc (.cells #[.string nm, .bool vd, .int .i64 pa, .int .i64 rg, .slice oa on oc, .slice ab n cb] 50)).cell? ⟨w.heap.size, j, none⟩ = some y) := Lib.hid (fun j y h => fcell w _ _ j y h)
  have HN := Lib.hid hn
  have HA := Lib.hid hat
  have HT := Lib.hid ht
  have HWD := Lib.hid hwd
  have FB1 : Hid (Fr (fun _ => False) w ((w.alloc (.cells #[.string nm, .bool vd, .int .i64 pa, .int .i64 rg, .slice oa on oc, .slice ab n cb] 50)).alloc (.cells #[.string nm, .bool vd, .int .i64 pa, .int .i64 rg, .slice oa on oc, .slice ab n cb] 50))) := Lib.hid (fr_al F0.out _)
  have KF := Lib.hid (few_any (w.heap.size + 1) on oc cb oa ab l hl hon hwd ((w.alloc (.cells #[.string nm, .bool vd, .int .i64 pa, .int .i64 rg, .slice oa on oc, .slice ab n cb] 50)).alloc (.cells #[.string nm, .bool vd, .int .i64 pa, .int .i64 rg, .slice oa on oc, .slice ab n cb] 50)) (by simp) (by rw [hn]; simp) (hat.fr FB1.out))
  have p5 : (w.alloc (.cells #[.string nm, .bool vd, .int .i64 pa, .int .i64 rg, .slice oa on oc, .slice ab n cb] 50)).cell? ⟨w.heap.size, 5, none⟩ = some (.slice ab n cb) := C1.out 5 _ rfl
  have hn64 : n ≤ 9223372036854775807 := by omega
  clear hat ht hwd hn hl
  go_enter Tryd.func5, Tryd.ntmps5
  go_wp2_with (first
    | (go_at_call 6; (with_reducible refine KF.out.mono ?_); rintro e w1 ⟨⟨tt, rfl, hle⟩, hf⟩; have HLE := Lib.hid hle; clear hle; have HF := Lib.hid (FB1.out.trans hf); have q5 := ((fr_al (Fr.refl (fun _ => False) _) _).trans hf).cell p5 id; have Q := Lib.hid (fun (j : Nat) (y : Value) (h : (#[.string nm, .bool vd, .int .i64 pa, .int .i64 rg, .slice oa on oc, .slice ab n cb] : Array Value)[j]? = some y) => ((fr_al (Fr.refl (fun _ => False) _) _).trans hf).cell (C1.out j y h) id); clear hf; cases tt)
    | (go_at_call 7; (with_reducible refine (awake_of _ (HT.out.fr HF.out id)).mono ?_); rintro e w2 ⟨rfl, hf⟩; have HG := Lib.hid hf; clear hf))
  · go_ret
    exact ⟨rfl, HF.out.trans HG.out⟩
  have hfew := HLE.out trivial
  have hn40 : n ≤ 40 := by have := hfew.1; rw [HN.out] at this; exact this
  have HB : Hid (∀ k, k < n → FB (l.getD k bk0)) := Lib.hid (by have := hfew.2; rw [HN.out] at this; exact this)
  clear hfew HLE KF C1 p5 FB1 F0
  obtain ⟨pb, hpb⟩ : ∃ pb, w.heap.size = pb := ⟨_, rfl⟩
  rw [hpb] at q5 Q ⊢
  clear hpb
  go_loopw [3, 4] (fun v q wr => ∃ k : Nat, v = .int .i64 ((cntL l k : Int) + k) ∧ q = .int .i64 k ∧ k ≤ n ∧ cntL l k ≤ 60 * k ∧ Hid (Fr (fun _ => False) w1 wr) ∧ Hid (∀ m, m < k → FE (l.getD m bk0))) (fun _ q _ => n - (intOf q).toNat)
  case atStart => exact ⟨0, rfl, rfl, Nat.zero_le _, Nat.le_refl _, Lib.hid (Fr.refl _ _), Lib.hid (fun m hm => absurd hm (by omega))⟩
  case round =>
    obtain ⟨k, rfl, rfl, hk, hc, HW, HE⟩ := hrel
    have a5 := HW.out.cell q5 id
    by_cases hlt : k < n
    · have hkl : k < l.length := by rw [HN.out]; exact hlt
      obtain ⟨g, o, rfl, ⟨ai, ci, c0', HIL⟩, c1', c2', c3', c4'⟩ := HA.out k hkl
      have HWW := Lib.hid (HF.out.trans HW.out)
      have c0 := HWW.out.cell c0' id
      have c1 := HWW.out.cell c1' id
      have c2 := HWW.out.cell c2' id
      have c3 := HWW.out.cell c3' id
      have c4 := HWW.out.cell c4' id
      clear c0' c1' c2' c3' c4' HIL
      have hfb := HB.out k hlt
      obtain ⟨x, hx⟩ : ∃ x, l.getD k bk0 = x := ⟨_, rfl⟩
      rw [hx] at c0 c1 c2 c3 c4 hfb
      have HX := Lib.hid hx
      have hni : x.ins.length ≤ 60 := hfb.1
      obtain ⟨ni, hnI⟩ : ∃ ni, x.ins.length = ni := ⟨_, rfl⟩
      rw [hnI] at c0 hni
      have HNI := Lib.hid hnI
      obtain ⟨en, hen⟩ : ∃ en, x.en = en := ⟨_, rfl⟩
      obtain ⟨ea, hea⟩ : ∃ ea, x.a = ea := ⟨_, rfl⟩
      obtain ⟨et, het⟩ : ∃ et, x.t = et := ⟨_, rfl⟩
      obtain ⟨el, hel⟩ : ∃ el, x.el = el := ⟨_, rfl⟩
      rw [hen] at c1; rw [hea] at c2; rw [het] at c3; rw [hel] at c4
      have HEN := Lib.hid (And.intro hen (And.intro hea (And.intro het hel)))
      have HC : Hid (cntL l (k + 1) = cntL l k + ni) := Lib.hid (by show cntL l k + _ = _; rw [hx, hnI])
      clear hx hfb hnI hen hea het hel
      obtain ⟨ck, hck⟩ : ∃ ck, cntL l k = ck := ⟨_, rfl⟩
      rw [hck] at hc HC ⊢
      have hco := HC.out
      clear hck
      have HFA : Hid (Fr (fun _ => False) wr (wr.alloc (.cells #[.slice ai ni ci, .int .i64 en, .int .i64 ea, .int .i64 et, .int .i64 el] 41))) := Lib.hid (fr_al (Fr.refl _ _) _)
      have HI := Lib.hid (ins_low en 0 ea 0 0 et el 0 (.int .u32 0) (.bool false) none 0 0 [] rfl (by omega) (wr.alloc (.cells #[.slice ai ni ci, .int .i64 en, .int .i64 ea, .int .i64 et, .int .i64 el] 41)) (fun k hk => absurd hk (by simp)))
      have bc : Hid (∀ (j : Nat) (y : Value), (#[.slice ai ni ci, .int .i64 en, .int .i64 ea, .int .i64 et, .int .i64 el] : Array Value)[j]? = some y → (wr.alloc (.cells #[.slice ai ni ci, .int .i64 en, .int .i64 ea, .int .i64 et, .int .i64 el] 41)).cell? ⟨wr.heap.size, j, none⟩ = some y) := Lib.hid (fun j y h => fcell wr _ _ j y h)
      go_wp2_with (first
        | (go_at_call 12; (with_reducible refine HI.out.mono ?_); rintro e w5 ⟨⟨tt, rfl, hle⟩, hf⟩; have HLE := Lib.hid hle; have HF5 := Lib.hid (HFA.out.trans hf); have b0 := hf.cell (bc.out 0 _ rfl) id; clear hle hf; cases tt)
        | (go_at_call 7; (with_reducible refine (awake_of _ (HT.out.fr (HWW.out.trans HF5.out) id)).mono ?_); rintro e w6 ⟨rfl, hf⟩; have HG := Lib.hid hf; clear hf))
      · go_ret
        exact ⟨rfl, (HWW.out.trans HF5.out).trans HG.out⟩
      · have HE2 : Hid (∀ m, m < k + 1 → FE (l.getD m bk0)) := Lib.hid (fun m hm => by
          by_cases hmk : m < k
          · exact HE.out m hmk
          · obtain rfl : m = k := by omega
            have q := (HLE.out trivial).2.1
            obtain ⟨e1, e2, e3, e4⟩ := HEN.out
            rw [HX.out]
            exact ⟨by rw [e1]; exact q 0 (by omega), by rw [e2]; exact q 2 (by omega), by rw [e3]; exact q 5 (by omega), by rw [e4]; exact q 6 (by omega)⟩)
        have HW5 := Lib.hid (HW.out.trans HF5.out)
        clear HLE HI bc HFA
        go_wp2
        go_roundw
        case rel => exact ⟨k + 1, by rw [HC.out]; go_num, by go_num, by omega, by omega, HW5, HE2⟩
        case measure => simp [intOf]; omega
    · obtain rfl : k = n := by omega
      have hok : ∀ x ∈ l, x.ok := fun x hx => fb_ok (HWD.out x hx) (of_getB (P := FB) (by rw [HN.out]; exact HB.out) x hx)
      have hsm : ∀ x ∈ l, x.sm := fun x hx => fb_sm (of_getB (P := FB) (by rw [HN.out]; exact HB.out) x hx) (of_getB (P := FE) (by rw [HN.out]; exact HE.out) x hx)
      have hl1 : l.length ≤ 1000 := by rw [HN.out]; omega
      have E : ∀ W, Fr (fun _ => False) wr W → Fr (fun _ => False) w W := fun W h => (HF.out.trans HW.out).trans h
      have KA : Hid (∀ W, Fr (fun _ => False) wr W → Calls Tryd.prog 7 #[] W fun e w' => e = .returned (.bool true) ∧ Fr (fun _ => False) W w' ∧ Fr (fun _ => False) wr w') := Lib.hid (fun W h => (awake_of W (HT.out.fr (E W h) id)).mono (fun e w' q => ⟨q.1, q.2, h.trans q.2⟩))
      have KT : Hid (∀ W, Fr (fun _ => False) wr W → Calls Tryd.prog 21 #[.agg #[.string nm, .bool vd, .int .i64 pa, .int .i64 rg, .slice oa on oc, .slice ab k cb]] W fun e w' => e = .returned (.string ⟨(textL l k).toArray⟩) ∧ Fr (fun _ => False) W w' ∧ Fr (fun _ => False) wr w') := Lib.hid (fun W h => by
        have q := text_any (.string nm) (.bool vd) (.int .i64 pa) (.int .i64 rg) (.slice oa on oc) ab cb l hl1 hok (fun x hx i hi w2 h2 => textF i.u ((hok x hx).i i hi).u0 ((hok x hx).i i hi).u1 w2 h2) W (HA.out.fr (E W h)) (HT.out.fr (E W h) id)
        rw [HN.out] at q
        exact q.mono (fun e w' q => ⟨q.1, q.2, h.trans q.2⟩))
      have KR : Hid (∀ W, Fr (fun _ => False) wr W → Calls Tryd.prog 22 #[.agg #[.string nm, .bool vd, .int .i64 pa, .int .i64 rg, .slice oa on oc, .slice ab k cb]] W fun e w' => e = .returned (.string ⟨(textL l k).toArray⟩) ∧ Fr (fun _ => False) W w' ∧ Fr (fun _ => False) wr w') := Lib.hid (fun W h => by
        have q := rtext_any (.string nm) (.bool vd) (.int .i64 pa) (.int .i64 rg) (.slice oa on oc) ab cb l hl1 hok hsm W (HA.out.fr (E W h))
        rw [HN.out] at q
        exact q.mono (fun e w' q => ⟨q.1, q.2, h.trans q.2⟩))
      have KS : Hid (∀ W, Fr (fun _ => False) wr W → Calls Tryd.prog 23 #[.agg #[.string nm, .bool vd, .int .i64 pa, .int .i64 rg, .slice oa on oc, .slice ab k cb]] W fun e w' => e = .returned (.int .i64 ((cntL l k : Int) + k)) ∧ Fr (fun _ => False) W w' ∧ Fr (fun _ => False) wr w') := Lib.hid (fun W h => by
        have q := size_any (.string nm) (.bool vd) (.int .i64 pa) (.int .i64 rg) (.slice oa on oc) ab cb l hl1 hok W (HA.out.fr (E W h))
        rw [HN.out] at q
        exact q.mono (fun e w' q => ⟨q.1, q.2, h.trans q.2⟩))
      obtain ⟨X, hX⟩ : ∃ X : ByteArray, ⟨(textL l k).toArray⟩ = X := ⟨_, rfl⟩
      rw [hX] at KT KR
      obtain ⟨Z, hZ⟩ : ∃ Z : Int, (cntL l k : Int) + k = Z := ⟨_, rfl⟩
      rw [hZ] at KS ⊢
      have HKP : Hid (∀ w0, Fr (fun _ => False) wr w0 → Fr (fun _ => False) wr w0 ∧ w0.cell? ⟨pb, 0, none⟩ = some (.string nm) ∧ w0.cell? ⟨pb, 1, none⟩ = some (.bool vd) ∧ w0.cell? ⟨pb, 2, none⟩ = some (.int .i64 pa) ∧ w0.cell? ⟨pb, 3, none⟩ = some (.int .i64 rg) ∧ w0.cell? ⟨pb, 4, none⟩ = some (.slice oa on oc) ∧ w0.cell? ⟨pb, 5, none⟩ = some (.slice ab k cb)) := Lib.hid (fun w0 h => ⟨h, (HW.out.trans h).cell (Q.out 0 _ rfl) id, (HW.out.trans h).cell (Q.out 1 _ rfl) id, (HW.out.trans h).cell (Q.out 2 _ rfl) id, (HW.out.trans h).cell (Q.out 3 _ rfl) id, (HW.out.trans h).cell (Q.out 4 _ rfl) id, (HW.out.trans h).cell (Q.out 5 _ rfl) id⟩)
      have HEE := Lib.hid E
      clear hok hsm hl1 E hX hZ HWD HA HB HE HT HN
      go_wp2
      go_region_held3 (fun w0 => Fr (fun _ => False) wr w0 ∧ w0.cell? ⟨pb, 0, none⟩ = some (.string nm) ∧ w0.cell? ⟨pb, 1, none⟩ = some (.bool vd) ∧ w0.cell? ⟨pb, 2, none⟩ = some (.int .i64 pa) ∧ w0.cell? ⟨pb, 3, none⟩ = some (.int .i64 rg) ∧ w0.cell? ⟨pb, 4, none⟩ = some (.slice oa on oc) ∧ w0.cell? ⟨pb, 5, none⟩ = some (.slice ab k cb))
        (first | exact HKP.out _ (fr_drw (Fr.refl _ _)) | assumption | exact HKP.out _ (by assumption))
        (first
          | (go_at_call 7; (with_reducible refine (KA.out _ (by first | exact fr_drw (Fr.refl _ _) | assumption)).mono ?_); rintro e w2 ⟨rfl, hf2, hg2⟩)
          | (go_at_call 21; (with_reducible refine (KT.out _ (by first | exact fr_drw (Fr.refl _ _) | assumption)).mono ?_); rintro e w3 ⟨rfl, hf3, hg3⟩)
          | (go_at_call 22; (with_reducible refine (KR.out _ (by first | exact fr_drw (Fr.refl _ _) | assumption)).mono ?_); rintro e w4 ⟨rfl, hf4, hg4⟩)
          | (go_at_call 23; (with_reducible refine (KS.out _ (by first | exact fr_drw (Fr.refl _ _) | assumption)).mono ?_); rintro e w5 ⟨rfl, hf5, hg5⟩))
      all_goals
        have HZ := Lib.hid (HEE.out _ hg5)
        go_wp2
        go_ret
        exact ⟨rfl, HZ.out⟩
end Go.Proofs.YtnhdchagoabjeaaDoor
