/-
  What instructions set, read and do, and where blocks lead (layer 13): the law's region of ten calls.
-/
import Derived.Test.YteghojgdljlplaaDoorTelOd
namespace Go.Proofs.YteghojgdljlplaaDoor
open Go.RowKit
set_option linter.unusedVariables false
set_option linter.unusedSimpArgs false
set_option maxRecDepth 100000 in
set_option maxHeartbeats 16000000 in
theorem walk_c (op d a b f o s z nu : Int) (lg : Bool) (aa : Option Addr) (n c : Nat) (args : List Int) (bi : Value) (en ba t el : Int) (hn : n = args.length) (hm : n ≤ 9223372036854775807) (h0 : aa = none → n = 0 ∧ c = 0) (p1 : 1 ≤ op) (p2 : op ≤ 8) (p3 : (op != 6) = false) (p4 : op = 6) (w : World) (hat : IntsAt w aa args) (ht : TabW w) :
    Calls Tryd.prog 4 #[.agg #[.int .i64 op, .int .i64 d, .int .i64 a, .int .i64 b, .int .i64 f, .int .i64 o, .int .i64 s, .int .i64 z, .int .u32 nu, .slice aa n c, .bool lg], .agg #[bi, .int .i64 en, .int .i64 ba, .int .i64 t, .int .i64 el]] w fun e w' => e = .returned (.bool true) ∧ Fr (fun _ => False) w w' := by
  have F0 : Hid (Fr (fun _ => False) w ((w.alloc (.cells #[.int .i64 op, .int .i64 d, .int .i64 a, .int .i64 b, .int .i64 f, .int .i64 o, .int .i64 s, .int .i64 z, .int .u32 nu, .slice aa n c, .bool lg] 38)).alloc (.cells #[bi, .int .i64 en, .int .i64 ba, .int .i64 t, .int .i64 el] 41))) := Lib.hid (fr_al (fr_al (Fr.refl _ _) _) _)
  have C1 : Hid (∀ (j : Nat) (y : Value), (#[.int .i64 op, .int .i64 d, .int .i64 a, .int .i64 b, .int .i64 f, .int .i64 o, .int .i64 s, .int .i64 z, .int .u32 nu, .slice aa n c, .bool lg] : Array Value)[j]? = some y → ((w.alloc (.cells #[.int .i64 op, .int .i64 d, .int .i64 a, .int .i64 b, .int .i64 f, .int .i64 o, .int .i64 s, .int .i64 z, .int .u32 nu, .slice aa n c, .bool lg] 38)).alloc (.cells #[bi, .int .i64 en, .int .i64 ba, .int .i64 t, .int .i64 el] 41)).cell? ⟨w.heap.size, j, none⟩ = some y) := Lib.hid (fun j y h => (fr_al (Fr.refl (fun _ => False) _) _).cell (fcell w _ _ j y h) id)
  have C2 : Hid (∀ (j : Nat) (y : Value), (#[bi, .int .i64 en, .int .i64 ba, .int .i64 t, .int .i64 el] : Array Value)[j]? = some y → ((w.alloc (.cells #[.int .i64 op, .int .i64 d, .int .i64 a, .int .i64 b, .int .i64 f, .int .i64 o, .int .i64 s, .int .i64 z, .int .u32 nu, .slice aa n c, .bool lg] 38)).alloc (.cells #[bi, .int .i64 en, .int .i64 ba, .int .i64 t, .int .i64 el] 41)).cell? ⟨w.heap.size + 1, j, none⟩ = some y) := Lib.hid (fun j y h => by have := fcell (w.alloc (.cells #[.int .i64 op, .int .i64 d, .int .i64 a, .int .i64 b, .int .i64 f, .int .i64 o, .int .i64 s, .int .i64 z, .int .u32 nu, .slice aa n c, .bool lg] 38)) #[bi, .int .i64 en, .int .i64 ba, .int .i64 t, .int .i64 el] 41 j y h; simpa using this)
  have HT := Lib.hid ht
  have HAT := Lib.hid hat
  have HN := Lib.hid hn
  have H0 := Lib.hid h0
  have KI := Lib.hid (ins_any op d a b f o s z (.int .u32 nu) (.bool lg) aa n c args hn hm ((w.alloc (.cells #[.int .i64 op, .int .i64 d, .int .i64 a, .int .i64 b, .int .i64 f, .int .i64 o, .int .i64 s, .int .i64 z, .int .u32 nu, .slice aa n c, .bool lg] 38)).alloc (.cells #[bi, .int .i64 en, .int .i64 ba, .int .i64 t, .int .i64 el] 41)) (hat.fr F0.out))
  have HP : Hid (pureB op = false) := Lib.hid (by unfold pureB; simp; omega)
  clear ht hat hn h0
  clear p4
  go_enter Tryd.func4, Tryd.ntmps4
  go_wp2_with (first
    | (go_at_call 12; (with_reducible refine KI.out.mono ?_); rintro e w1 ⟨⟨tt, rfl, hle⟩, hf⟩; have HLE := Lib.hid hle; clear hle; have HF := Lib.hid hf; have k0 : w1.cell? ⟨w.heap.size, 0, none⟩ = some (.int .i64 op) := hf.cell (C1.out 0 _ rfl) id; clear hf; cases tt)
    | (go_at_call 7; (with_reducible refine (awake_of _ (HT.out.fr (F0.out.trans HF.out) id)).mono ?_); rintro e w2 ⟨rfl, hf⟩; have HG := Lib.hid hf; clear hf))
  · go_ret
    exact ⟨rfl, (F0.out.trans HF.out).trans HG.out⟩
  have hle : n ≤ 12 := by simpa using HLE.out
  have E : ∀ W, Fr (fun _ => False) w1 W → Fr (fun _ => False) w W := fun W h => (F0.out.trans HF.out).trans h
  have KA : Hid (∀ W, Fr (fun _ => False) w1 W → Calls Tryd.prog 7 #[] W fun e w' => e = .returned (.bool true) ∧ Fr (fun _ => False) W w' ∧ Fr (fun _ => False) w1 w') := Lib.hid (fun W h => (awake_of W (HT.out.fr (E W h) id)).mono (fun e w' q => ⟨q.1, q.2, h.trans q.2⟩))
  have KD : Hid (∀ W, Fr (fun _ => False) w1 W → Calls Tryd.prog 13 #[.agg #[.int .i64 op, .int .i64 d, .int .i64 a, .int .i64 b, .int .i64 f, .int .i64 o, .int .i64 s, .int .i64 z, .int .u32 nu, .slice aa n c, .bool lg]] W fun e w' => e = .returned (.int .i64 (defI op d)) ∧ Fr (fun _ => False) W w' ∧ Fr (fun _ => False) w1 w') := Lib.hid (fun W h => (def_any op d _ _ _ _ _ _ _ _ _ W).mono (fun e w' q => ⟨q.1, q.2, h.trans q.2⟩))
  have KE : Hid (∀ W, Fr (fun _ => False) w1 W → Calls Tryd.prog 14 #[.agg #[.int .i64 op, .int .i64 d, .int .i64 a, .int .i64 b, .int .i64 f, .int .i64 o, .int .i64 s, .int .i64 z, .int .u32 nu, .slice aa n c, .bool lg]] W fun e w' => e = .returned (.int .i64 (defI op d)) ∧ Fr (fun _ => False) W w' ∧ Fr (fun _ => False) w1 w') := Lib.hid (fun W h => (rdef_any op d _ _ _ _ _ _ _ _ _ W).mono (fun e w' q => ⟨q.1, q.2, h.trans q.2⟩))
  have KU : Hid (∀ W, Fr (fun _ => False) w1 W → Calls Tryd.prog 16 #[.agg #[.int .i64 op, .int .i64 d, .int .i64 a, .int .i64 b, .int .i64 f, .int .i64 o, .int .i64 s, .int .i64 z, .int .u32 nu, .slice aa n c, .bool lg]] W fun e w' => (∃ v, e = .returned v ∧ SlInts w' v (usesL op a b args)) ∧ Fr (fun _ => False) W w' ∧ Fr (fun _ => False) w1 w') := Lib.hid (fun W h => (uses_any op d a b _ _ _ _ _ _ aa n c args HN.out hle H0.out W (HAT.out.fr (E W h))).mono (fun e w' q => ⟨q.1, q.2, h.trans q.2⟩))
  have KV : Hid (∀ W, Fr (fun _ => False) w1 W → Calls Tryd.prog 17 #[.agg #[.int .i64 op, .int .i64 d, .int .i64 a, .int .i64 b, .int .i64 f, .int .i64 o, .int .i64 s, .int .i64 z, .int .u32 nu, .slice aa n c, .bool lg]] W fun e w' => (∃ v, e = .returned v ∧ SlInts w' v (usesL op a b args)) ∧ Fr (fun _ => False) W w' ∧ Fr (fun _ => False) w1 w') := Lib.hid (fun W h => (ruses_any op d a b _ _ _ _ _ _ aa n c args HN.out hle W (HAT.out.fr (E W h))).mono (fun e w' q => ⟨q.1, q.2, h.trans q.2⟩))
  have KP : Hid (∀ W, Fr (fun _ => False) w1 W → Calls Tryd.prog 18 #[.agg #[.int .i64 op, .int .i64 d, .int .i64 a, .int .i64 b, .int .i64 f, .int .i64 o, .int .i64 s, .int .i64 z, .int .u32 nu, .slice aa n c, .bool lg]] W fun e w' => e = .returned (.bool false) ∧ Fr (fun _ => False) W w' ∧ Fr (fun _ => False) w1 w') := Lib.hid (fun W h => (pure_any op _ _ _ _ _ _ _ _ _ _ W).mono (fun e w' q => ⟨by rw [q.1, HP.out], q.2, h.trans q.2⟩))
  have KO : Hid (∀ W, Fr (fun _ => False) w1 W → Calls Tryd.prog 19 #[.agg #[bi, .int .i64 en, .int .i64 ba, .int .i64 t, .int .i64 el]] W fun e w' => (∃ v, e = .returned v ∧ SlInts w' v (outsL en t el)) ∧ Fr (fun _ => False) W w' ∧ Fr (fun _ => False) w1 w') := Lib.hid (fun W h => (outs_any bi en ba t el W).mono (fun e w' ⟨v, q1, q2, q3⟩ => ⟨⟨v, q1, q2⟩, q3, h.trans q3⟩))
  have KQ : Hid (∀ W, Fr (fun _ => False) w1 W → Calls Tryd.prog 20 #[.agg #[bi, .int .i64 en, .int .i64 ba, .int .i64 t, .int .i64 el]] W fun e w' => (∃ v, e = .returned v ∧ SlInts w' v (outsL en t el)) ∧ Fr (fun _ => False) W w' ∧ Fr (fun _ => False) w1 w') := Lib.hid (fun W h => (routs_any bi en ba t el W).mono (fun e w' ⟨v, q1, q2, q3⟩ => ⟨⟨v, q1, q2⟩, q3, h.trans q3⟩))
  have KS : Hid (∀ (l : List Int), l.length ≤ 1000 → ∀ v1 v2 W, SlInts W v1 l → SlInts W v2 l → Fr (fun _ => False) w1 W → Calls Tryd.prog 15 #[v1, v2] W fun e w' => e = .returned (.bool true) ∧ Fr (fun _ => False) W w' ∧ Fr (fun _ => False) w1 w') := Lib.hid (fun l hl v1 v2 W h1 h2 h => (same_any l v1 v2 hl W h1 h2).mono (fun e w' q => ⟨q.1, q.2, h.trans q.2⟩))
  have L1 : (usesL op a b args).length ≤ 1000 := by have := usesL_len op a b args; have := HN.out; omega
  have L2 := outsL_len en t el
  have HKP : Hid (∀ w0, Fr (fun _ => False) w1 w0 → Fr (fun _ => False) w1 w0 ∧ w0.cell? ⟨w.heap.size, 0, none⟩ = some (.int .i64 op) ∧ w0.cell? ⟨w.heap.size, 1, none⟩ = some (.int .i64 d) ∧ w0.cell? ⟨w.heap.size, 2, none⟩ = some (.int .i64 a) ∧ w0.cell? ⟨w.heap.size, 3, none⟩ = some (.int .i64 b) ∧ w0.cell? ⟨w.heap.size, 4, none⟩ = some (.int .i64 f) ∧ w0.cell? ⟨w.heap.size, 5, none⟩ = some (.int .i64 o) ∧ w0.cell? ⟨w.heap.size, 6, none⟩ = some (.int .i64 s) ∧ w0.cell? ⟨w.heap.size, 7, none⟩ = some (.int .i64 z) ∧ w0.cell? ⟨w.heap.size, 8, none⟩ = some (.int .u32 nu) ∧ w0.cell? ⟨w.heap.size, 9, none⟩ = some (.slice aa n c) ∧ w0.cell? ⟨w.heap.size, 10, none⟩ = some (.bool lg) ∧ w0.cell? ⟨w.heap.size + 1, 0, none⟩ = some (bi) ∧ w0.cell? ⟨w.heap.size + 1, 1, none⟩ = some (.int .i64 en) ∧ w0.cell? ⟨w.heap.size + 1, 2, none⟩ = some (.int .i64 ba) ∧ w0.cell? ⟨w.heap.size + 1, 3, none⟩ = some (.int .i64 t) ∧ w0.cell? ⟨w.heap.size + 1, 4, none⟩ = some (.int .i64 el)) := Lib.hid (fun w0 h => ⟨h, (HF.out.trans h).cell (C1.out 0 _ rfl) id, (HF.out.trans h).cell (C1.out 1 _ rfl) id, (HF.out.trans h).cell (C1.out 2 _ rfl) id, (HF.out.trans h).cell (C1.out 3 _ rfl) id, (HF.out.trans h).cell (C1.out 4 _ rfl) id, (HF.out.trans h).cell (C1.out 5 _ rfl) id, (HF.out.trans h).cell (C1.out 6 _ rfl) id, (HF.out.trans h).cell (C1.out 7 _ rfl) id, (HF.out.trans h).cell (C1.out 8 _ rfl) id, (HF.out.trans h).cell (C1.out 9 _ rfl) id, (HF.out.trans h).cell (C1.out 10 _ rfl) id, (HF.out.trans h).cell (C2.out 0 _ rfl) id, (HF.out.trans h).cell (C2.out 1 _ rfl) id, (HF.out.trans h).cell (C2.out 2 _ rfl) id, (HF.out.trans h).cell (C2.out 3 _ rfl) id, (HF.out.trans h).cell (C2.out 4 _ rfl) id⟩)
  have HE := Lib.hid E
  clear E k0 HP KI C1 C2 HAT HT H0
  generalize defI op d = df at *
  generalize usesL op a b args = L at *
  generalize outsL en t el = M at *
  go_region_held3 (fun w0 => Fr (fun _ => False) w1 w0 ∧ w0.cell? ⟨w.heap.size, 0, none⟩ = some (.int .i64 op) ∧ w0.cell? ⟨w.heap.size, 1, none⟩ = some (.int .i64 d) ∧ w0.cell? ⟨w.heap.size, 2, none⟩ = some (.int .i64 a) ∧ w0.cell? ⟨w.heap.size, 3, none⟩ = some (.int .i64 b) ∧ w0.cell? ⟨w.heap.size, 4, none⟩ = some (.int .i64 f) ∧ w0.cell? ⟨w.heap.size, 5, none⟩ = some (.int .i64 o) ∧ w0.cell? ⟨w.heap.size, 6, none⟩ = some (.int .i64 s) ∧ w0.cell? ⟨w.heap.size, 7, none⟩ = some (.int .i64 z) ∧ w0.cell? ⟨w.heap.size, 8, none⟩ = some (.int .u32 nu) ∧ w0.cell? ⟨w.heap.size, 9, none⟩ = some (.slice aa n c) ∧ w0.cell? ⟨w.heap.size, 10, none⟩ = some (.bool lg) ∧ w0.cell? ⟨w.heap.size + 1, 0, none⟩ = some (bi) ∧ w0.cell? ⟨w.heap.size + 1, 1, none⟩ = some (.int .i64 en) ∧ w0.cell? ⟨w.heap.size + 1, 2, none⟩ = some (.int .i64 ba) ∧ w0.cell? ⟨w.heap.size + 1, 3, none⟩ = some (.int .i64 t) ∧ w0.cell? ⟨w.heap.size + 1, 4, none⟩ = some (.int .i64 el))
    (first | exact HKP.out _ (fr_drw (Fr.refl _ _)) | assumption | exact HKP.out _ (by assumption))
    (first
      | (go_at_call 7; (with_reducible refine (KA.out _ (by first | exact fr_drw (Fr.refl _ _) | assumption)).mono ?_); rintro e w2 ⟨rfl, hf2, hg2⟩)
      | (go_at_call 13; (with_reducible refine (KD.out _ (by first | exact fr_drw (Fr.refl _ _) | assumption)).mono ?_); rintro e w3 ⟨rfl, hf3, hg3⟩)
      | (go_at_call 14; (with_reducible refine (KE.out _ (by first | exact fr_drw (Fr.refl _ _) | assumption)).mono ?_); rintro e w4 ⟨rfl, hf4, hg4⟩)
      | (go_at_call 16; (with_reducible refine (KU.out _ (by assumption)).mono ?_); rintro e w5 ⟨⟨v5, rfl, hs5⟩, hf5, hg5⟩)
      | (go_at_call 17; (with_reducible refine (KV.out _ (by assumption)).mono ?_); rintro e w6 ⟨⟨v6, rfl, hs6⟩, hf6, hg6⟩; have hs5' := hs5.fr hf6)
      | (go_at_call 15; first
        | (with_reducible refine (KS.out M L2 v9 v10 _ hs9' hs10 (by assumption)).mono ?_); rintro e w11 ⟨rfl, hf11, hg11⟩
        | (with_reducible refine (KS.out L L1 v5 v6 _ hs5' hs6 (by assumption)).mono ?_); rintro e w7 ⟨rfl, hf7, hg7⟩)
      | (go_at_call 18; (with_reducible refine (KP.out _ (by assumption)).mono ?_); rintro e w8 ⟨rfl, hf8, hg8⟩)
      | (go_at_call 19; (with_reducible refine (KO.out _ (by assumption)).mono ?_); rintro e w9 ⟨⟨v9, rfl, hs9⟩, hf9, hg9⟩)
      | (go_at_call 20; (with_reducible refine (KQ.out _ (by assumption)).mono ?_); rintro e w10 ⟨⟨v10, rfl, hs10⟩, hf10, hg10⟩; have hs9' := hs9.fr hf10))
  all_goals
    have HZ := Lib.hid (HE.out _ hg11)
    go_wp2
    go_ret
    exact ⟨rfl, HZ.out⟩
end Go.Proofs.YteghojgdljlplaaDoor
