/-
  Modules (layer 13): the document's own test of an instruction, any.
-/
import Derived.Test.YtdhagimcffmdfaaDoorQRi
import Derived.Test.YtdhagimcffmdfaaDoorQRi9
import Derived.Test.YtdhagimcffmdfaaDoorQRfD1
import Derived.Test.YtdhagimcffmdfaaDoorQRfD3
import Derived.Test.YtdhagimcffmdfaaDoorQRjA
import Derived.Test.YtdhagimcffmdfaaDoorQRjL
import Derived.Test.YtdhagimcffmdfaaDoorQRfD
namespace Go.Proofs.YtdhagimcffmdfaaDoor
open Go.RowKit
set_option linter.unusedVariables false
set_option linter.unusedSimpArgs false
set_option maxRecDepth 100000 in
set_option maxHeartbeats 4000000 in
theorem rins_none (ga pa oa : Option Addr) (nG nP nO gc pc oc : Nat) (da mn nm vd pr bl : Value) (R k D A B fn ob of sz u : Int) (aa : Option Addr) (na ac : Nat) (lg : Bool) (w : World)
    (KF : ∀ W, Calls Tryd.prog 34 #[.int .i64 k] W fun e w' => e = .returned (.slice none 0 0) ∧ Fr (fun _ => False) W w') :
    Calls Tryd.prog 32 #[.agg #[.slice ga nG gc, da, .slice pa nP pc, mn], .agg #[nm, vd, pr, .int .i64 R, .slice oa nO oc, bl], .agg #[.int .i64 k, .int .i64 D, .int .i64 A, .int .i64 B, .int .i64 fn, .int .i64 ob, .int .i64 of, .int .i64 sz, .int .u32 u, .slice aa na ac, .bool lg]] w fun e w' => e = .returned (.bool false) ∧ Fr (fun _ => False) w w' := by
  refine calls_tw Tryd.func32 rfl rfl (Nat.le_of_ble_eq_true rfl) ?_
  refine TW.sreg ?_
  refine WL.box rfl rfl rfl rfl rfl (bx_mod _ _ rfl) ?_
  refine WL.box rfl rfl rfl rfl rfl (bx_prc _ _ rfl) ?_
  refine WL.box rfl rfl rfl rfl rfl (bx_ins _ _ rfl) ?_
  refine WL.op rfl rfl rfl (W.quiet_assign rfl rfl) ?_
  refine WL.nil ?_
  have F0 := fr_al (fr_al (fr_al (Fr.refl (fun _ => False) w) (.cells #[.slice ga nG gc, da, .slice pa nP pc, mn] 26)) (.cells #[nm, vd, pr, .int .i64 R, .slice oa nO oc, bl] 50)) (.cells #[.int .i64 k, .int .i64 D, .int .i64 A, .int .i64 B, .int .i64 fn, .int .i64 ob, .int .i64 of, .int .i64 sz, .int .u32 u, .slice aa na ac, .bool lg] 38)
  have CM : ∀ (j : Nat) (y : Value), (#[.slice ga nG gc, da, .slice pa nP pc, mn] : Array Value)[j]? = some y → (((w.alloc (.cells #[.slice ga nG gc, da, .slice pa nP pc, mn] 26)).alloc (.cells #[nm, vd, pr, .int .i64 R, .slice oa nO oc, bl] 50)).alloc (.cells #[.int .i64 k, .int .i64 D, .int .i64 A, .int .i64 B, .int .i64 fn, .int .i64 ob, .int .i64 of, .int .i64 sz, .int .u32 u, .slice aa na ac, .bool lg] 38)).cell? ⟨w.heap.size, j, none⟩ = some y := fun j y h => (fr_al (fr_al (Fr.refl (fun _ => False) _) _) _).cell (fcell w _ _ j y h) id
  have CP : ∀ (j : Nat) (y : Value), (#[nm, vd, pr, .int .i64 R, .slice oa nO oc, bl] : Array Value)[j]? = some y → (((w.alloc (.cells #[.slice ga nG gc, da, .slice pa nP pc, mn] 26)).alloc (.cells #[nm, vd, pr, .int .i64 R, .slice oa nO oc, bl] 50)).alloc (.cells #[.int .i64 k, .int .i64 D, .int .i64 A, .int .i64 B, .int .i64 fn, .int .i64 ob, .int .i64 of, .int .i64 sz, .int .u32 u, .slice aa na ac, .bool lg] 38)).cell? ⟨(w.alloc (.cells #[.slice ga nG gc, da, .slice pa nP pc, mn] 26)).heap.size, j, none⟩ = some y := fun j y h => (fr_al (Fr.refl (fun _ => False) _) _).cell (fcell (w.alloc (.cells #[.slice ga nG gc, da, .slice pa nP pc, mn] 26)) _ _ j y h) id
  have CI : ∀ (j : Nat) (y : Value), (#[.int .i64 k, .int .i64 D, .int .i64 A, .int .i64 B, .int .i64 fn, .int .i64 ob, .int .i64 of, .int .i64 sz, .int .u32 u, .slice aa na ac, .bool lg] : Array Value)[j]? = some y → (((w.alloc (.cells #[.slice ga nG gc, da, .slice pa nP pc, mn] 26)).alloc (.cells #[nm, vd, pr, .int .i64 R, .slice oa nO oc, bl] 50)).alloc (.cells #[.int .i64 k, .int .i64 D, .int .i64 A, .int .i64 B, .int .i64 fn, .int .i64 ob, .int .i64 of, .int .i64 sz, .int .u32 u, .slice aa na ac, .bool lg] 38)).cell? ⟨((w.alloc (.cells #[.slice ga nG gc, da, .slice pa nP pc, mn] 26)).alloc (.cells #[nm, vd, pr, .int .i64 R, .slice oa nO oc, bl] 50)).heap.size, j, none⟩ = some y := fun j y h => fcell ((w.alloc (.cells #[.slice ga nG gc, da, .slice pa nP pc, mn] 26)).alloc (.cells #[nm, vd, pr, .int .i64 R, .slice oa nO oc, bl] 50)) _ _ j y h
  generalize (((w.alloc (.cells #[.slice ga nG gc, da, .slice pa nP pc, mn] 26)).alloc (.cells #[nm, vd, pr, .int .i64 R, .slice oa nO oc, bl] 50)).alloc (.cells #[.int .i64 k, .int .i64 D, .int .i64 A, .int .i64 B, .int .i64 fn, .int .i64 ob, .int .i64 of, .int .i64 sz, .int .u32 u, .slice aa na ac, .bool lg] 38)) = V at *
  generalize ((w.alloc (.cells #[.slice ga nG gc, da, .slice pa nP pc, mn] 26)).alloc (.cells #[nm, vd, pr, .int .i64 R, .slice oa nO oc, bl] 50)).heap.size = b5 at *
  generalize (w.alloc (.cells #[.slice ga nG gc, da, .slice pa nP pc, mn] 26)).heap.size = b4 at *
  generalize w.heap.size = b3 at *
  refine TW.sreg ?_
  refine WL.op rfl rfl rfl (W.quiet_field rfl rfl (fi0 _)) ?_
  refine WL.op rfl rfl rfl (W.quiet_load rfl rfl (fun W hW => by rw [hW]; exact ld_int _ _ _ (CI 0 _ rfl))) ?_
  refine WL.call (hr := KF V) rfl rfl rfl rfl rfl (fun W => cf_fields W _) ?_
  rintro e w4 ⟨rfl, hf⟩
  refine ⟨_, rfl, ?_⟩
  refine WL.op rfl rfl rfl (W.quiet_assign rfl rfl) ?_
  refine WL.nil ?_
  have hWW := F0.trans hf
  refine TW.to (fun W => Fr (fun _ => False) w4 W) (Fr.refl _ _) ?_
  refine T.seq ?_
  refine T.sreg [(14, .bool true)] ?_ ?_
  · refine W.op rfl rfl rfl (W.quiet_move rfl rfl) ?_
    refine W.op rfl rfl rfl (W.quiet_len rfl rfl (fun W => ln_f W _ _ _)) ?_
    refine W.op rfl rfl rfl (W.quiet_bin rfl rfl rfl (fun W => bn_eq ((0 : Nat) : Int) 0 _ _ W)) ?_
    exact W.nil (fun a h => by (repeat (refine Kn.cons h rfl ?_)); exact h.base)
  refine T.cond rfl (fun _ => ?_) (fun e => by cases e)
  refine T.sreg [(6, .bool false)] ?_ (T.ret ?_)
  · refine W.op rfl rfl rfl (W.quiet_assign rfl rfl) ?_
    exact W.nil (fun a h => by (repeat (refine Kn.cons h rfl ?_)); exact h.base)
  · repeat (with_reducible refine Rt.thn ?_)
    refine body_ret rfl rfl ?_
    exact fun W hW => ⟨rfl, hWW.trans hW⟩
theorem rins_1 (ga pa oa : Option Addr) (nG nP nO gc pc oc : Nat) (da mn nm vd pr bl : Value) (R : Int) (hR : 0 ≤ R ∧ R ≤ 8000) (cp : Int) (cv : Bool) (D A B fn ob of sz u : Int) (aa : Option Addr) (na ac : Nat) (args : List Int) (hna : na = args.length) (lg : Bool) (w : World) :
    Calls Tryd.prog 32 #[.agg #[.slice ga nG gc, da, .slice pa nP pc, mn], .agg #[nm, vd, pr, .int .i64 R, .slice oa nO oc, bl], .agg #[.int .i64 1, .int .i64 D, .int .i64 A, .int .i64 B, .int .i64 fn, .int .i64 ob, .int .i64 of, .int .i64 sz, .int .u32 u, .slice aa na ac, .bool lg]] w fun e w' => IsR (InsP R nO nG nP cp cv ⟨1, D, A, B, fn, ob, of, sz, u, args, lg⟩) e ∧ Fr (fun _ => False) w w' := by
  obtain ⟨bD, hD⟩ := bool_ex (if true = true then RgP R D else D = -1)
  obtain ⟨bA, hA⟩ := bool_ex (if false = true then RgP R A else A = -1)
  obtain ⟨bB, hB⟩ := bool_ex (if false = true then RgP R B else B = -1)
  have h := rins_gen ga pa oa nG nP nO gc pc oc da mn nm vd pr bl R 1 D A B fn ob of sz u aa na ac lg true false false false false false false true false true w (fun W => rff_1 W) bD bA bB
    (fun W => rreg_dec nm vd pr (.slice oa nO oc) bl R D hR true bD hD W) (fun W => rreg_dec nm vd pr (.slice oa nO oc) bl R A hR false bA hA W) (fun W => rreg_dec nm vd pr (.slice oa nO oc) bl R B hR false bB hB W)
    _ rfl _ rfl _ rfl _ rfl _ rfl _ rfl _ rfl _ rfl _ rfl _ rfl _ rfl _ rfl _ rfl _ rfl _ rfl _ rfl _ rfl _ rfl _ rfl _ rfl _ rfl rfl _ _ _ _ rfl rfl rfl rfl
  refine h.mono fun e w' q => ⟨⟨_, q.1, ?_⟩, q.2⟩
  clear h
  rw [insP_1 R nO nG nP cp cv D A B fn ob of sz u args na hna lg]
  simp only [Bool.false_eq_true, if_true, if_false] at hD hA hB
  rw [← hD, ← hA, ← hB]
  cases bD <;> cases bA <;> cases bB <;> simp <;> omega
theorem rins_2 (ga pa oa : Option Addr) (nG nP nO gc pc oc : Nat) (da mn nm vd pr bl : Value) (R : Int) (hR : 0 ≤ R ∧ R ≤ 8000) (cp : Int) (cv : Bool) (D A B fn ob of sz u : Int) (aa : Option Addr) (na ac : Nat) (args : List Int) (hna : na = args.length) (lg : Bool) (w : World) :
    Calls Tryd.prog 32 #[.agg #[.slice ga nG gc, da, .slice pa nP pc, mn], .agg #[nm, vd, pr, .int .i64 R, .slice oa nO oc, bl], .agg #[.int .i64 2, .int .i64 D, .int .i64 A, .int .i64 B, .int .i64 fn, .int .i64 ob, .int .i64 of, .int .i64 sz, .int .u32 u, .slice aa na ac, .bool lg]] w fun e w' => IsR (InsP R nO nG nP cp cv ⟨2, D, A, B, fn, ob, of, sz, u, args, lg⟩) e ∧ Fr (fun _ => False) w w' := by
  obtain ⟨bD, hD⟩ := bool_ex (if true = true then RgP R D else D = -1)
  obtain ⟨bA, hA⟩ := bool_ex (if true = true then RgP R A else A = -1)
  obtain ⟨bB, hB⟩ := bool_ex (if false = true then RgP R B else B = -1)
  have h := rins_gen ga pa oa nG nP nO gc pc oc da mn nm vd pr bl R 2 D A B fn ob of sz u aa na ac lg true true false false false false false false false true w (fun W => rff_2 W) bD bA bB
    (fun W => rreg_dec nm vd pr (.slice oa nO oc) bl R D hR true bD hD W) (fun W => rreg_dec nm vd pr (.slice oa nO oc) bl R A hR true bA hA W) (fun W => rreg_dec nm vd pr (.slice oa nO oc) bl R B hR false bB hB W)
    _ rfl _ rfl _ rfl _ rfl _ rfl _ rfl _ rfl _ rfl _ rfl _ rfl _ rfl _ rfl _ rfl _ rfl _ rfl _ rfl _ rfl _ rfl _ rfl _ rfl _ rfl rfl _ _ _ _ rfl rfl rfl rfl
  refine h.mono fun e w' q => ⟨⟨_, q.1, ?_⟩, q.2⟩
  clear h
  rw [insP_2 R nO nG nP cp cv D A B fn ob of sz u args na hna lg]
  simp only [Bool.false_eq_true, if_true, if_false] at hD hA hB
  rw [← hD, ← hA, ← hB]
  cases bD <;> cases bA <;> cases bB <;> simp <;> omega
theorem rins_3 (ga pa oa : Option Addr) (nG nP nO gc pc oc : Nat) (da mn nm vd pr bl : Value) (R : Int) (hR : 0 ≤ R ∧ R ≤ 8000) (cp : Int) (cv : Bool) (D A B fn ob of sz u : Int) (aa : Option Addr) (na ac : Nat) (args : List Int) (hna : na = args.length) (lg : Bool) (w : World) :
    Calls Tryd.prog 32 #[.agg #[.slice ga nG gc, da, .slice pa nP pc, mn], .agg #[nm, vd, pr, .int .i64 R, .slice oa nO oc, bl], .agg #[.int .i64 3, .int .i64 D, .int .i64 A, .int .i64 B, .int .i64 fn, .int .i64 ob, .int .i64 of, .int .i64 sz, .int .u32 u, .slice aa na ac, .bool lg]] w fun e w' => IsR (InsP R nO nG nP cp cv ⟨3, D, A, B, fn, ob, of, sz, u, args, lg⟩) e ∧ Fr (fun _ => False) w w' := by
  obtain ⟨bD, hD⟩ := bool_ex (if true = true then RgP R D else D = -1)
  obtain ⟨bA, hA⟩ := bool_ex (if true = true then RgP R A else A = -1)
  obtain ⟨bB, hB⟩ := bool_ex (if true = true then RgP R B else B = -1)
  have h := rins_gen ga pa oa nG nP nO gc pc oc da mn nm vd pr bl R 3 D A B fn ob of sz u aa na ac lg true true true true false false false false false true w (fun W => rff_3 W) bD bA bB
    (fun W => rreg_dec nm vd pr (.slice oa nO oc) bl R D hR true bD hD W) (fun W => rreg_dec nm vd pr (.slice oa nO oc) bl R A hR true bA hA W) (fun W => rreg_dec nm vd pr (.slice oa nO oc) bl R B hR true bB hB W)
    _ rfl _ rfl _ rfl _ rfl _ rfl _ rfl _ rfl _ rfl _ rfl _ rfl _ rfl _ rfl _ rfl _ rfl _ rfl _ rfl _ rfl _ rfl _ rfl _ rfl _ rfl rfl _ _ _ _ rfl rfl rfl rfl
  refine h.mono fun e w' q => ⟨⟨_, q.1, ?_⟩, q.2⟩
  clear h
  rw [insP_3 R nO nG nP cp cv D A B fn ob of sz u args na hna lg]
  simp only [Bool.false_eq_true, if_true, if_false] at hD hA hB
  rw [← hD, ← hA, ← hB]
  cases bD <;> cases bA <;> cases bB <;> simp <;> omega
theorem rins_4 (ga pa oa : Option Addr) (nG nP nO gc pc oc : Nat) (da mn nm vd pr bl : Value) (R : Int) (hR : 0 ≤ R ∧ R ≤ 8000) (cp : Int) (cv : Bool) (D A B fn ob of sz u : Int) (aa : Option Addr) (na ac : Nat) (args : List Int) (hna : na = args.length) (lg : Bool) (w : World) :
    Calls Tryd.prog 32 #[.agg #[.slice ga nG gc, da, .slice pa nP pc, mn], .agg #[nm, vd, pr, .int .i64 R, .slice oa nO oc, bl], .agg #[.int .i64 4, .int .i64 D, .int .i64 A, .int .i64 B, .int .i64 fn, .int .i64 ob, .int .i64 of, .int .i64 sz, .int .u32 u, .slice aa na ac, .bool lg]] w fun e w' => IsR (InsP R nO nG nP cp cv ⟨4, D, A, B, fn, ob, of, sz, u, args, lg⟩) e ∧ Fr (fun _ => False) w w' := by
  obtain ⟨bD, hD⟩ := bool_ex (if true = true then RgP R D else D = -1)
  obtain ⟨bA, hA⟩ := bool_ex (if true = true then RgP R A else A = -1)
  obtain ⟨bB, hB⟩ := bool_ex (if false = true then RgP R B else B = -1)
  have h := rins_gen ga pa oa nG nP nO gc pc oc da mn nm vd pr bl R 4 D A B fn ob of sz u aa na ac lg true true false true false false false false false true w (fun W => rff_4 W) bD bA bB
    (fun W => rreg_dec nm vd pr (.slice oa nO oc) bl R D hR true bD hD W) (fun W => rreg_dec nm vd pr (.slice oa nO oc) bl R A hR true bA hA W) (fun W => rreg_dec nm vd pr (.slice oa nO oc) bl R B hR false bB hB W)
    _ rfl _ rfl _ rfl _ rfl _ rfl _ rfl _ rfl _ rfl _ rfl _ rfl _ rfl _ rfl _ rfl _ rfl _ rfl _ rfl _ rfl _ rfl _ rfl _ rfl _ rfl rfl _ _ _ _ rfl rfl rfl rfl
  refine h.mono fun e w' q => ⟨⟨_, q.1, ?_⟩, q.2⟩
  clear h
  rw [insP_4 R nO nG nP cp cv D A B fn ob of sz u args na hna lg]
  simp only [Bool.false_eq_true, if_true, if_false] at hD hA hB
  rw [← hD, ← hA, ← hB]
  cases bD <;> cases bA <;> cases bB <;> simp <;> omega
theorem rins_5 (ga pa oa : Option Addr) (nG nP nO gc pc oc : Nat) (da mn nm vd pr bl : Value) (R : Int) (hR : 0 ≤ R ∧ R ≤ 8000) (cp : Int) (cv : Bool) (D A B fn ob of sz u : Int) (aa : Option Addr) (na ac : Nat) (args : List Int) (hna : na = args.length) (lg : Bool) (w : World) :
    Calls Tryd.prog 32 #[.agg #[.slice ga nG gc, da, .slice pa nP pc, mn], .agg #[nm, vd, pr, .int .i64 R, .slice oa nO oc, bl], .agg #[.int .i64 5, .int .i64 D, .int .i64 A, .int .i64 B, .int .i64 fn, .int .i64 ob, .int .i64 of, .int .i64 sz, .int .u32 u, .slice aa na ac, .bool lg]] w fun e w' => IsR (InsP R nO nG nP cp cv ⟨5, D, A, B, fn, ob, of, sz, u, args, lg⟩) e ∧ Fr (fun _ => False) w w' := by
  obtain ⟨bD, hD⟩ := bool_ex (if true = true then RgP R D else D = -1)
  obtain ⟨bA, hA⟩ := bool_ex (if true = true then RgP R A else A = -1)
  obtain ⟨bB, hB⟩ := bool_ex (if false = true then RgP R B else B = -1)
  have h := rins_gen ga pa oa nG nP nO gc pc oc da mn nm vd pr bl R 5 D A B fn ob of sz u aa na ac lg true true false false false true true false false true w (fun W => rff_5 W) bD bA bB
    (fun W => rreg_dec nm vd pr (.slice oa nO oc) bl R D hR true bD hD W) (fun W => rreg_dec nm vd pr (.slice oa nO oc) bl R A hR true bA hA W) (fun W => rreg_dec nm vd pr (.slice oa nO oc) bl R B hR false bB hB W)
    _ rfl _ rfl _ rfl _ rfl _ rfl _ rfl _ rfl _ rfl _ rfl _ rfl _ rfl _ rfl _ rfl _ rfl _ rfl _ rfl _ rfl _ rfl _ rfl _ rfl _ rfl rfl _ _ _ _ rfl rfl rfl rfl
  refine h.mono fun e w' q => ⟨⟨_, q.1, ?_⟩, q.2⟩
  clear h
  rw [insP_5 R nO nG nP cp cv D A B fn ob of sz u args na hna lg]
  simp only [Bool.false_eq_true, if_true, if_false] at hD hA hB
  rw [← hD, ← hA, ← hB]
  cases bD <;> cases bA <;> cases bB <;> simp <;> omega
theorem rins_6 (ga pa oa : Option Addr) (nG nP nO gc pc oc : Nat) (da mn nm vd pr bl : Value) (R : Int) (hR : 0 ≤ R ∧ R ≤ 8000) (cp : Int) (cv : Bool) (D A B fn ob of sz u : Int) (aa : Option Addr) (na ac : Nat) (args : List Int) (hna : na = args.length) (lg : Bool) (w : World) :
    Calls Tryd.prog 32 #[.agg #[.slice ga nG gc, da, .slice pa nP pc, mn], .agg #[nm, vd, pr, .int .i64 R, .slice oa nO oc, bl], .agg #[.int .i64 6, .int .i64 D, .int .i64 A, .int .i64 B, .int .i64 fn, .int .i64 ob, .int .i64 of, .int .i64 sz, .int .u32 u, .slice aa na ac, .bool lg]] w fun e w' => IsR (InsP R nO nG nP cp cv ⟨6, D, A, B, fn, ob, of, sz, u, args, lg⟩) e ∧ Fr (fun _ => False) w w' := by
  obtain ⟨bD, hD⟩ := bool_ex (if false = true then RgP R D else D = -1)
  obtain ⟨bA, hA⟩ := bool_ex (if true = true then RgP R A else A = -1)
  obtain ⟨bB, hB⟩ := bool_ex (if true = true then RgP R B else B = -1)
  have h := rins_gen ga pa oa nG nP nO gc pc oc da mn nm vd pr bl R 6 D A B fn ob of sz u aa na ac lg false true true false false true true false false true w (fun W => rff_6 W) bD bA bB
    (fun W => rreg_dec nm vd pr (.slice oa nO oc) bl R D hR false bD hD W) (fun W => rreg_dec nm vd pr (.slice oa nO oc) bl R A hR true bA hA W) (fun W => rreg_dec nm vd pr (.slice oa nO oc) bl R B hR true bB hB W)
    _ rfl _ rfl _ rfl _ rfl _ rfl _ rfl _ rfl _ rfl _ rfl _ rfl _ rfl _ rfl _ rfl _ rfl _ rfl _ rfl _ rfl _ rfl _ rfl _ rfl _ rfl rfl _ _ _ _ rfl rfl rfl rfl
  refine h.mono fun e w' q => ⟨⟨_, q.1, ?_⟩, q.2⟩
  clear h
  rw [insP_6 R nO nG nP cp cv D A B fn ob of sz u args na hna lg]
  simp only [Bool.false_eq_true, if_true, if_false] at hD hA hB
  rw [← hD, ← hA, ← hB]
  cases bD <;> cases bA <;> cases bB <;> simp <;> omega
theorem rins_7 (ga pa oa : Option Addr) (nG nP nO gc pc oc : Nat) (da mn nm vd pr bl : Value) (R : Int) (hR : 0 ≤ R ∧ R ≤ 8000) (cp : Int) (cv : Bool) (D A B fn ob of sz u : Int) (aa : Option Addr) (na ac : Nat) (args : List Int) (hna : na = args.length) (lg : Bool) (w : World) :
    Calls Tryd.prog 32 #[.agg #[.slice ga nG gc, da, .slice pa nP pc, mn], .agg #[nm, vd, pr, .int .i64 R, .slice oa nO oc, bl], .agg #[.int .i64 7, .int .i64 D, .int .i64 A, .int .i64 B, .int .i64 fn, .int .i64 ob, .int .i64 of, .int .i64 sz, .int .u32 u, .slice aa na ac, .bool lg]] w fun e w' => IsR (InsP R nO nG nP cp cv ⟨7, D, A, B, fn, ob, of, sz, u, args, lg⟩) e ∧ Fr (fun _ => False) w w' := by
  obtain ⟨bD, hD⟩ := bool_ex (if true = true then RgP R D else D = -1)
  obtain ⟨bA, hA⟩ := bool_ex (if false = true then RgP R A else A = -1)
  obtain ⟨bB, hB⟩ := bool_ex (if false = true then RgP R B else B = -1)
  have h := rins_gen ga pa oa nG nP nO gc pc oc da mn nm vd pr bl R 7 D A B fn ob of sz u aa na ac lg true false false false true true false false false true w (fun W => rff_7 W) bD bA bB
    (fun W => rreg_dec nm vd pr (.slice oa nO oc) bl R D hR true bD hD W) (fun W => rreg_dec nm vd pr (.slice oa nO oc) bl R A hR false bA hA W) (fun W => rreg_dec nm vd pr (.slice oa nO oc) bl R B hR false bB hB W)
    _ rfl _ rfl _ rfl _ rfl _ rfl _ rfl _ rfl _ rfl _ rfl _ rfl _ rfl _ rfl _ rfl _ rfl _ rfl _ rfl _ rfl _ rfl _ rfl _ rfl _ rfl rfl _ _ _ _ rfl rfl rfl rfl
  refine h.mono fun e w' q => ⟨⟨_, q.1, ?_⟩, q.2⟩
  clear h
  rw [insP_7 R nO nG nP cp cv D A B fn ob of sz u args na hna lg]
  simp only [Bool.false_eq_true, if_true, if_false] at hD hA hB
  rw [← hD, ← hA, ← hB]
  cases bD <;> cases bA <;> cases bB <;> simp <;> omega
theorem rins_8 (ga pa oa : Option Addr) (nG nP nO gc pc oc : Nat) (da mn nm vd pr bl : Value) (R : Int) (hR : 0 ≤ R ∧ R ≤ 8000) (cp : Int) (cv : Bool) (D A B fn ob of sz u : Int) (aa : Option Addr) (na ac : Nat) (args : List Int) (hna : na = args.length) (lg : Bool) (w : World) :
    Calls Tryd.prog 32 #[.agg #[.slice ga nG gc, da, .slice pa nP pc, mn], .agg #[nm, vd, pr, .int .i64 R, .slice oa nO oc, bl], .agg #[.int .i64 8, .int .i64 D, .int .i64 A, .int .i64 B, .int .i64 fn, .int .i64 ob, .int .i64 of, .int .i64 sz, .int .u32 u, .slice aa na ac, .bool lg]] w fun e w' => IsR (InsP R nO nG nP cp cv ⟨8, D, A, B, fn, ob, of, sz, u, args, lg⟩) e ∧ Fr (fun _ => False) w w' := by
  obtain ⟨bD, hD⟩ := bool_ex (if true = true then RgP R D else D = -1)
  obtain ⟨bA, hA⟩ := bool_ex (if false = true then RgP R A else A = -1)
  obtain ⟨bB, hB⟩ := bool_ex (if false = true then RgP R B else B = -1)
  have h := rins_gen ga pa oa nG nP nO gc pc oc da mn nm vd pr bl R 8 D A B fn ob of sz u aa na ac lg true false false false true true false false false true w (fun W => rff_8 W) bD bA bB
    (fun W => rreg_dec nm vd pr (.slice oa nO oc) bl R D hR true bD hD W) (fun W => rreg_dec nm vd pr (.slice oa nO oc) bl R A hR false bA hA W) (fun W => rreg_dec nm vd pr (.slice oa nO oc) bl R B hR false bB hB W)
    _ rfl _ rfl _ rfl _ rfl _ rfl _ rfl _ rfl _ rfl _ rfl _ rfl _ rfl _ rfl _ rfl _ rfl _ rfl _ rfl _ rfl _ rfl _ rfl _ rfl _ rfl rfl _ _ _ _ rfl rfl rfl rfl
  refine h.mono fun e w' q => ⟨⟨_, q.1, ?_⟩, q.2⟩
  clear h
  rw [insP_8 R nO nG nP cp cv D A B fn ob of sz u args na hna lg]
  simp only [Bool.false_eq_true, if_true, if_false] at hD hA hB
  rw [← hD, ← hA, ← hB]
  cases bD <;> cases bA <;> cases bB <;> simp <;> omega
theorem rins_10 (ga pa oa : Option Addr) (nG nP nO gc pc oc : Nat) (da mn nm vd pr bl : Value) (R : Int) (hR : 0 ≤ R ∧ R ≤ 8000) (cp : Int) (cv : Bool) (D A B fn ob of sz u : Int) (aa : Option Addr) (na ac : Nat) (args : List Int) (hna : na = args.length) (lg : Bool) (w : World) :
    Calls Tryd.prog 32 #[.agg #[.slice ga nG gc, da, .slice pa nP pc, mn], .agg #[nm, vd, pr, .int .i64 R, .slice oa nO oc, bl], .agg #[.int .i64 10, .int .i64 D, .int .i64 A, .int .i64 B, .int .i64 fn, .int .i64 ob, .int .i64 of, .int .i64 sz, .int .u32 u, .slice aa na ac, .bool lg]] w fun e w' => IsR (InsP R nO nG nP cp cv ⟨10, D, A, B, fn, ob, of, sz, u, args, lg⟩) e ∧ Fr (fun _ => False) w w' := by
  obtain ⟨bD, hD⟩ := bool_ex (if false = true then RgP R D else D = -1)
  obtain ⟨bA, hA⟩ := bool_ex (if true = true then RgP R A else A = -1)
  obtain ⟨bB, hB⟩ := bool_ex (if false = true then RgP R B else B = -1)
  have h := rins_gen ga pa oa nG nP nO gc pc oc da mn nm vd pr bl R 10 D A B fn ob of sz u aa na ac lg false true false false false false false false false false w (fun W => rff_10 W) bD bA bB
    (fun W => rreg_dec nm vd pr (.slice oa nO oc) bl R D hR false bD hD W) (fun W => rreg_dec nm vd pr (.slice oa nO oc) bl R A hR true bA hA W) (fun W => rreg_dec nm vd pr (.slice oa nO oc) bl R B hR false bB hB W)
    _ rfl _ rfl _ rfl _ rfl _ rfl _ rfl _ rfl _ rfl _ rfl _ rfl _ rfl _ rfl _ rfl _ rfl _ rfl _ rfl _ rfl _ rfl _ rfl _ rfl _ rfl rfl _ _ _ _ rfl rfl rfl rfl
  refine h.mono fun e w' q => ⟨⟨_, q.1, ?_⟩, q.2⟩
  clear h
  rw [insP_10 R nO nG nP cp cv D A B fn ob of sz u args na hna lg]
  simp only [Bool.false_eq_true, if_true, if_false] at hD hA hB
  rw [← hD, ← hA, ← hB]
  cases bD <;> cases bA <;> cases bB <;> cases lg <;> simp <;> omega
theorem rins_11 (ga pa oa : Option Addr) (nG nP nO gc pc oc : Nat) (da mn nm vd pr bl : Value) (R : Int) (hR : 0 ≤ R ∧ R ≤ 8000) (cp : Int) (cv : Bool) (D A B fn ob of sz u : Int) (aa : Option Addr) (na ac : Nat) (args : List Int) (hna : na = args.length) (lg : Bool) (w : World) :
    Calls Tryd.prog 32 #[.agg #[.slice ga nG gc, da, .slice pa nP pc, mn], .agg #[nm, vd, pr, .int .i64 R, .slice oa nO oc, bl], .agg #[.int .i64 11, .int .i64 D, .int .i64 A, .int .i64 B, .int .i64 fn, .int .i64 ob, .int .i64 of, .int .i64 sz, .int .u32 u, .slice aa na ac, .bool lg]] w fun e w' => IsR (InsP R nO nG nP cp cv ⟨11, D, A, B, fn, ob, of, sz, u, args, lg⟩) e ∧ Fr (fun _ => False) w w' := by
  obtain ⟨bD, hD⟩ := bool_ex (if true = true then RgP R D else D = -1)
  obtain ⟨bA, hA⟩ := bool_ex (if false = true then RgP R A else A = -1)
  obtain ⟨bB, hB⟩ := bool_ex (if false = true then RgP R B else B = -1)
  have h := rins_gen ga pa oa nG nP nO gc pc oc da mn nm vd pr bl R 11 D A B fn ob of sz u aa na ac lg true false false false false false false false false true w (fun W => rff_11 W) bD bA bB
    (fun W => rreg_dec nm vd pr (.slice oa nO oc) bl R D hR true bD hD W) (fun W => rreg_dec nm vd pr (.slice oa nO oc) bl R A hR false bA hA W) (fun W => rreg_dec nm vd pr (.slice oa nO oc) bl R B hR false bB hB W)
    _ rfl _ rfl _ rfl _ rfl _ rfl _ rfl _ rfl _ rfl _ rfl _ rfl _ rfl _ rfl _ rfl _ rfl _ rfl _ rfl _ rfl _ rfl _ rfl _ rfl _ rfl rfl _ _ _ _ rfl rfl rfl rfl
  refine h.mono fun e w' q => ⟨⟨_, q.1, ?_⟩, q.2⟩
  clear h
  rw [insP_11 R nO nG nP cp cv D A B fn ob of sz u args na hna lg]
  simp only [Bool.false_eq_true, if_true, if_false] at hD hA hB
  rw [← hD, ← hA, ← hB]
  cases bD <;> cases bA <;> cases bB <;> simp <;> omega
theorem rins_12 (ga pa oa : Option Addr) (nG nP nO gc pc oc : Nat) (da mn nm vd pr bl : Value) (R : Int) (hR : 0 ≤ R ∧ R ≤ 8000) (cp : Int) (cv : Bool) (D A B fn ob of sz u : Int) (aa : Option Addr) (na ac : Nat) (args : List Int) (hna : na = args.length) (lg : Bool) (w : World) :
    Calls Tryd.prog 32 #[.agg #[.slice ga nG gc, da, .slice pa nP pc, mn], .agg #[nm, vd, pr, .int .i64 R, .slice oa nO oc, bl], .agg #[.int .i64 12, .int .i64 D, .int .i64 A, .int .i64 B, .int .i64 fn, .int .i64 ob, .int .i64 of, .int .i64 sz, .int .u32 u, .slice aa na ac, .bool lg]] w fun e w' => IsR (InsP R nO nG nP cp cv ⟨12, D, A, B, fn, ob, of, sz, u, args, lg⟩) e ∧ Fr (fun _ => False) w w' := by
  obtain ⟨bD, hD⟩ := bool_ex (if false = true then RgP R D else D = -1)
  obtain ⟨bA, hA⟩ := bool_ex (if false = true then RgP R A else A = -1)
  obtain ⟨bB, hB⟩ := bool_ex (if false = true then RgP R B else B = -1)
  have h := rins_gen ga pa oa nG nP nO gc pc oc da mn nm vd pr bl R 12 D A B fn ob of sz u aa na ac lg false false false false false false false false false false w (fun W => rff_12 W) bD bA bB
    (fun W => rreg_dec nm vd pr (.slice oa nO oc) bl R D hR false bD hD W) (fun W => rreg_dec nm vd pr (.slice oa nO oc) bl R A hR false bA hA W) (fun W => rreg_dec nm vd pr (.slice oa nO oc) bl R B hR false bB hB W)
    _ rfl _ rfl _ rfl _ rfl _ rfl _ rfl _ rfl _ rfl _ rfl _ rfl _ rfl _ rfl _ rfl _ rfl _ rfl _ rfl _ rfl _ rfl _ rfl _ rfl _ rfl rfl _ _ _ _ rfl rfl rfl rfl
  refine h.mono fun e w' q => ⟨⟨_, q.1, ?_⟩, q.2⟩
  clear h
  rw [insP_12 R nO nG nP cp cv D A B fn ob of sz u args na hna lg]
  simp only [Bool.false_eq_true, if_true, if_false] at hD hA hB
  rw [← hD, ← hA, ← hB]
  cases bD <;> cases bA <;> cases bB <;> cases lg <;> simp <;> omega
theorem rins_9 (ga pa oa : Option Addr) (nG nP nO gc pc oc : Nat) (da mn nm vd pr bl : Value) (R : Int) (hR : 0 ≤ R ∧ R ≤ 8000) (cp : Int) (cv : Bool) (D A B fn ob of sz u : Int) (aa : Option Addr) (na ac : Nat) (args : List Int) (hna : na = args.length) (lg : Bool) (w : World) (hnb : na ≤ 9223372036854775807) (hat : IntsAt w aa args) (hcal : 0 ≤ ob ∧ ob < (nP : Int) → ∃ g o j, ob = ((j : Nat) : Int) ∧ j < nP ∧ pa = some ⟨g, o, none⟩ ∧ w.cell? ⟨g, o + j * 6 + 1, none⟩ = some (.bool cv) ∧ w.cell? ⟨g, o + j * 6 + 2, none⟩ = some (.int .i64 cp)) :
    Calls Tryd.prog 32 #[.agg #[.slice ga nG gc, da, .slice pa nP pc, mn], .agg #[nm, vd, pr, .int .i64 R, .slice oa nO oc, bl], .agg #[.int .i64 9, .int .i64 D, .int .i64 A, .int .i64 B, .int .i64 fn, .int .i64 ob, .int .i64 of, .int .i64 sz, .int .u32 u, .slice aa na ac, .bool lg]] w fun e w' => IsR (InsP R nO nG nP cp cv ⟨9, D, A, B, fn, ob, of, sz, u, args, lg⟩) e ∧ Fr (fun _ => False) w w' := by
  obtain ⟨bD, hD⟩ := bool_ex (if (!cv) = true then RgP R D else D = -1)
  have h := rins_call ga pa oa nG nP nO gc pc oc da mn nm vd pr bl R 9 D A B fn ob of sz u aa na ac lg true false false false true false false false true true w (fun W => rff_9 W) hR cp cv bD
    (fun W => rreg_dec nm vd pr (.slice oa nO oc) bl R D hR (!cv) bD hD W) args hna hnb hat
    _ rfl _ rfl _ rfl _ rfl _ rfl _ rfl _ rfl _ rfl _ rfl _ rfl _ rfl _ rfl rfl _ _ rfl rfl (fun z => hcal (by simp at z; omega))
  refine h.mono fun e w' q => ⟨?_, q.2⟩
  obtain ⟨t, rfl, ht⟩ := q.1
  refine ⟨t, rfl, ht.trans ?_⟩
  clear h ht
  obtain ⟨bG, hG⟩ := bool_ex (ArgP R args)
  cases cv
  · rw [insP_9f R nO nG nP cp D A B fn ob of sz u args na hna lg]
    simp only [Bool.not_false, if_true] at hD
    have hD2 : bD = false ∨ D ≠ -1 := by
      cases bD
      · exact .inl rfl
      · exact .inr (fun z => by have y : RgP R D := hD.1 rfl; rw [z] at y; have := y.1; omega)
    rw [← hD, ← hG]
    cases bD <;> cases bG <;> cases lg <;> simp at hD2 ⊢ <;> omega
  · rw [insP_9t R nO nG nP cp D A B fn ob of sz u args na hna lg]
    simp only [Bool.not_true, Bool.false_eq_true, if_false] at hD
    rw [← hD, ← hG]
    cases bD <;> cases bG <;> cases lg <;> simp at hD ⊢ <;> omega
theorem rins_any (ga pa oa : Option Addr) (nG nP nO gc pc oc : Nat) (da mn nm vd pr bl : Value) (R : Int) (hR : 0 ≤ R ∧ R ≤ 8000) (cp : Int) (cv : Bool) (k D A B fn ob of sz u : Int) (aa : Option Addr) (na ac : Nat) (args : List Int) (hna : na = args.length) (lg : Bool) (w : World) (hnb : na ≤ 9223372036854775807) (hat : IntsAt w aa args) (hcal : 0 ≤ ob ∧ ob < (nP : Int) → ∃ g o j, ob = ((j : Nat) : Int) ∧ j < nP ∧ pa = some ⟨g, o, none⟩ ∧ w.cell? ⟨g, o + j * 6 + 1, none⟩ = some (.bool cv) ∧ w.cell? ⟨g, o + j * 6 + 2, none⟩ = some (.int .i64 cp)) :
    Calls Tryd.prog 32 #[.agg #[.slice ga nG gc, da, .slice pa nP pc, mn], .agg #[nm, vd, pr, .int .i64 R, .slice oa nO oc, bl], .agg #[.int .i64 k, .int .i64 D, .int .i64 A, .int .i64 B, .int .i64 fn, .int .i64 ob, .int .i64 of, .int .i64 sz, .int .u32 u, .slice aa na ac, .bool lg]] w fun e w' => IsR (InsP R nO nG nP cp cv ⟨k, D, A, B, fn, ob, of, sz, u, args, lg⟩) e ∧ Fr (fun _ => False) w w' := by
  by_cases lo : k < 1
  · refine (rins_none ga pa oa nG nP nO gc pc oc da mn nm vd pr bl R k D A B fn ob of sz u aa na ac lg w (fun W => rff_lo k lo W)).mono fun e w' q => ⟨⟨_, q.1, iff_of_false Bool.false_ne_true (fun z => ?_)⟩, q.2⟩
    have z1 : 1 ≤ k := z.1
    omega
  by_cases hi : 12 < k
  · refine (rins_none ga pa oa nG nP nO gc pc oc da mn nm vd pr bl R k D A B fn ob of sz u aa na ac lg w (fun W => rff_hi k hi W)).mono fun e w' q => ⟨⟨_, q.1, iff_of_false Bool.false_ne_true (fun z => ?_)⟩, q.2⟩
    have z1 : k ≤ 12 := z.2.1
    omega
  have hk : k = 1 ∨ k = 2 ∨ k = 3 ∨ k = 4 ∨ k = 5 ∨ k = 6 ∨ k = 7 ∨ k = 8 ∨ k = 9 ∨ k = 10 ∨ k = 11 ∨ k = 12 := by omega
  rcases hk with rfl | rfl | rfl | rfl | rfl | rfl | rfl | rfl | rfl | rfl | rfl | rfl
  · exact rins_1 ga pa oa nG nP nO gc pc oc da mn nm vd pr bl R hR cp cv D A B fn ob of sz u aa na ac args hna lg w
  · exact rins_2 ga pa oa nG nP nO gc pc oc da mn nm vd pr bl R hR cp cv D A B fn ob of sz u aa na ac args hna lg w
  · exact rins_3 ga pa oa nG nP nO gc pc oc da mn nm vd pr bl R hR cp cv D A B fn ob of sz u aa na ac args hna lg w
  · exact rins_4 ga pa oa nG nP nO gc pc oc da mn nm vd pr bl R hR cp cv D A B fn ob of sz u aa na ac args hna lg w
  · exact rins_5 ga pa oa nG nP nO gc pc oc da mn nm vd pr bl R hR cp cv D A B fn ob of sz u aa na ac args hna lg w
  · exact rins_6 ga pa oa nG nP nO gc pc oc da mn nm vd pr bl R hR cp cv D A B fn ob of sz u aa na ac args hna lg w
  · exact rins_7 ga pa oa nG nP nO gc pc oc da mn nm vd pr bl R hR cp cv D A B fn ob of sz u aa na ac args hna lg w
  · exact rins_8 ga pa oa nG nP nO gc pc oc da mn nm vd pr bl R hR cp cv D A B fn ob of sz u aa na ac args hna lg w
  · exact rins_9 ga pa oa nG nP nO gc pc oc da mn nm vd pr bl R hR cp cv D A B fn ob of sz u aa na ac args hna lg w hnb hat hcal
  · exact rins_10 ga pa oa nG nP nO gc pc oc da mn nm vd pr bl R hR cp cv D A B fn ob of sz u aa na ac args hna lg w
  · exact rins_11 ga pa oa nG nP nO gc pc oc da mn nm vd pr bl R hR cp cv D A B fn ob of sz u aa na ac args hna lg w
  · exact rins_12 ga pa oa nG nP nO gc pc oc da mn nm vd pr bl R hR cp cv D A B fn ob of sz u aa na ac args hna lg w
end Go.Proofs.YtdhagimcffmdfaaDoor
