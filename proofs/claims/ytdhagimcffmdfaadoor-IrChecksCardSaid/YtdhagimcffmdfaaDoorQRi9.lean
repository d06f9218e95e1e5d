/-
  Modules (layer 13): the document's own test of an instruction, a call.
-/
import Derived.Test.YtdhagimcffmdfaaDoorQRi
import Derived.Test.YtdhagimcffmdfaaDoorQRjA
import Derived.Test.YtdhagimcffmdfaaDoorQRjL
import Derived.Test.YtdhagimcffmdfaaDoorQRfD
namespace Go.Proofs.YtdhagimcffmdfaaDoor
open Go.RowKit
set_option linter.unusedVariables false
set_option linter.unusedSimpArgs false
set_option maxRecDepth 100000 in
set_option maxHeartbeats 16000000 in
theorem rins_call (ga pa oa : Option Addr) (nG nP nO gc pc oc : Nat) (da mn nm vd pr bl : Value) (R k D A B fn ob of sz u : Int) (aa : Option Addr) (na ac : Nat) (lg : Bool)
    (f0 f1 f2 f3 f4 f5 f6 f7 f8 f9 : Bool) (w : World)
    (KF : ∀ W, Calls Tryd.prog 34 #[.int .i64 k] W fun e w' => (∃ g, e = .returned (.slice (some ⟨g, 0, none⟩) 10 10) ∧ RwF w' g [.bool f0, .bool f1, .bool f2, .bool f3, .bool f4, .bool f5, .bool f6, .bool f7, .bool f8, .bool f9]) ∧ Fr (fun _ => False) W w')
    (hR : 0 ≤ R ∧ R ≤ 8000) (cp : Int) (cv : Bool) (bD : Bool)
    (KD : ∀ W, Calls Tryd.prog 53 #[.agg #[nm, vd, pr, .int .i64 R, .slice oa nO oc, bl], .int .i64 D, .bool (!cv)] W fun e w' => e = .returned (.bool bD) ∧ Fr (fun _ => False) W w')
    (args : List Int) (hna : na = args.length) (hnb : na ≤ 9223372036854775807) (hat : IntsAt w aa args)
    (nfn : Bool) (hnfn : (fn != 0) = nfn) (nob : Bool) (hnob : (ob != 0) = nob) (nof : Bool) (hnof : (of != 0) = nof) (nsz : Bool) (hnsz : (sz != 0) = nsz) (nu : Bool) (hnu : (u != 0) = nu) (nna : Bool) (hnna : (decide ((0 : Int) < (na : Int))) = nna) (eA : Bool) (heA : (A == -1) = eA) (eB : Bool) (heB : (B == -1) = eB) (nD : Bool) (hnD : (D != -1) = nD) (lo9 : Bool) (hlo9 : (decide (ob < 0)) = lo9) (hi9 : Bool) (hhi9 : (decide ((nP : Int) ≤ ob)) = hi9) (ne9 : Bool) (hne9 : ((na : Int) != cp) = ne9) (hk9 : (k == 9) = true) (c4 c7 : Bool) (h4 : c4 = ((!f3 && nfn) || (!f4 && nob) || (!f5 && nof) || (!f6 && nsz) || (!f7 && nu) || (!f8 && nna) || (!f9 && lg))) (h7 : c7 = ((lo9 || hi9) || ne9 || !bD))
    (hcal : (lo9 || hi9) = false → ∃ g o j, ob = ((j : Nat) : Int) ∧ j < nP ∧ pa = some ⟨g, o, none⟩ ∧ w.cell? ⟨g, o + j * 6 + 1, none⟩ = some (.bool cv) ∧ w.cell? ⟨g, o + j * 6 + 2, none⟩ = some (.int .i64 cp)) :
    Calls Tryd.prog 32 #[.agg #[.slice ga nG gc, da, .slice pa nP pc, mn], .agg #[nm, vd, pr, .int .i64 R, .slice oa nO oc, bl], .agg #[.int .i64 k, .int .i64 D, .int .i64 A, .int .i64 B, .int .i64 fn, .int .i64 ob, .int .i64 of, .int .i64 sz, .int .u32 u, .slice aa na ac, .bool lg]] w fun e w' => IsR (c4 = false ∧ c7 = false ∧ ArgP R args ∧ (eA && eB && (!lg || nD)) = true) e ∧ Fr (fun _ => False) w w' := by
  have Bk9 : ∀ (x y : Operand) (W : World), (do eqGuard .eql 3 x y (.int .i64 k) (.int .i64 9); binOp .eql 3 (.int .i64 k) (.int .i64 9) : Sem Value).run Tryd.prog W = .ok (.bool true) W := fun x y W => by rw [← hk9]; exact bn_eq k 9 x y W
  have B10 : ∀ (x y : Operand) (W : World), (do eqGuard .eql 3 x y (.int .i64 (10 : Nat)) (.int .i64 0); binOp .eql 3 (.int .i64 (10 : Nat)) (.int .i64 0) : Sem Value).run Tryd.prog W = .ok (.bool false) W := fun x y W => bn_eq 10 0 x y W
  have Bfn : ∀ (x y : Operand) (W : World), (do eqGuard .neq 3 x y (.int .i64 fn) (.int .i64 0); binOp .neq 3 (.int .i64 fn) (.int .i64 0) : Sem Value).run Tryd.prog W = .ok (.bool nfn) W := fun x y W => by rw [← hnfn]; exact bn_ne fn 0 x y W
  have Bob : ∀ (x y : Operand) (W : World), (do eqGuard .neq 3 x y (.int .i64 ob) (.int .i64 0); binOp .neq 3 (.int .i64 ob) (.int .i64 0) : Sem Value).run Tryd.prog W = .ok (.bool nob) W := fun x y W => by rw [← hnob]; exact bn_ne ob 0 x y W
  have Bof : ∀ (x y : Operand) (W : World), (do eqGuard .neq 3 x y (.int .i64 of) (.int .i64 0); binOp .neq 3 (.int .i64 of) (.int .i64 0) : Sem Value).run Tryd.prog W = .ok (.bool nof) W := fun x y W => by rw [← hnof]; exact bn_ne of 0 x y W
  have Bsz : ∀ (x y : Operand) (W : World), (do eqGuard .neq 3 x y (.int .i64 sz) (.int .i64 0); binOp .neq 3 (.int .i64 sz) (.int .i64 0) : Sem Value).run Tryd.prog W = .ok (.bool nsz) W := fun x y W => by rw [← hnsz]; exact bn_ne sz 0 x y W
  have Bu : ∀ (x y : Operand) (W : World), (do eqGuard .neq 35 x y (.int .u32 u) (.int .u32 0); binOp .neq 35 (.int .u32 u) (.int .u32 0) : Sem Value).run Tryd.prog W = .ok (.bool nu) W := fun x y W => by rw [← hnu]; exact bn_neu u 0 x y W
  have Bna : ∀ (x y : Operand) (W : World), (do eqGuard .gtr 3 x y (.int .i64 (na : Int)) (.int .i64 0); binOp .gtr 3 (.int .i64 (na : Int)) (.int .i64 0) : Sem Value).run Tryd.prog W = .ok (.bool nna) W := fun x y W => by rw [← hnna]; exact bn_gt (na : Int) 0 x y W
  have BeA : ∀ (x y : Operand) (W : World), (do eqGuard .eql 3 x y (.int .i64 A) (.int .i64 (-1)); binOp .eql 3 (.int .i64 A) (.int .i64 (-1)) : Sem Value).run Tryd.prog W = .ok (.bool eA) W := fun x y W => by rw [← heA]; exact bn_eq A (-1) x y W
  have BeB : ∀ (x y : Operand) (W : World), (do eqGuard .eql 3 x y (.int .i64 B) (.int .i64 (-1)); binOp .eql 3 (.int .i64 B) (.int .i64 (-1)) : Sem Value).run Tryd.prog W = .ok (.bool eB) W := fun x y W => by rw [← heB]; exact bn_eq B (-1) x y W
  have BnD : ∀ (x y : Operand) (W : World), (do eqGuard .neq 3 x y (.int .i64 D) (.int .i64 (-1)); binOp .neq 3 (.int .i64 D) (.int .i64 (-1)) : Sem Value).run Tryd.prog W = .ok (.bool nD) W := fun x y W => by rw [← hnD]; exact bn_ne D (-1) x y W
  have Blo9 : ∀ (x y : Operand) (W : World), (do eqGuard .lss 3 x y (.int .i64 ob) (.int .i64 0); binOp .lss 3 (.int .i64 ob) (.int .i64 0) : Sem Value).run Tryd.prog W = .ok (.bool lo9) W := fun x y W => by rw [← hlo9]; exact bn_lt ob 0 x y W
  have Bhi9 : ∀ (x y : Operand) (W : World), (do eqGuard .geq 3 x y (.int .i64 ob) (.int .i64 (nP : Int)); binOp .geq 3 (.int .i64 ob) (.int .i64 (nP : Int)) : Sem Value).run Tryd.prog W = .ok (.bool hi9) W := fun x y W => by rw [← hhi9]; exact bn_ge ob (nP : Int) x y W
  have Bne : ∀ (x y : Operand) (W : World), (do eqGuard .neq 3 x y (.int .i64 (na : Int)) (.int .i64 cp); binOp .neq 3 (.int .i64 (na : Int)) (.int .i64 cp) : Sem Value).run Tryd.prog W = .ok (.bool ne9) W := fun x y W => by rw [← hne9]; exact bn_ne (na : Int) cp x y W
  clear hnfn hnob hnof hnsz hnu hnna heA heB hnD hlo9 hhi9 hne9 hk9
  refine calls_tw Tryd.func32 rfl rfl (Nat.le_of_ble_eq_true rfl) ?_
  refine TW.sreg ?_
  refine WL.box rfl rfl rfl rfl rfl (bx_mod _ _ rfl) ?_
  refine WL.box rfl rfl rfl rfl rfl (bx_prc _ _ rfl) ?_
  refine WL.box rfl rfl rfl rfl rfl (bx_ins _ _ rfl) ?_
  refine WL.op rfl rfl rfl (W.quiet_assign rfl rfl) ?_
  refine WL.nil ?_
  have F0 := fr_al (fr_al (fr_al (Fr.refl (fun _ => False) w) (.cells #[.slice ga nG gc, da, .slice pa nP pc, mn] 26)) (.cells #[nm, vd, pr, .int .i64 R, .slice oa nO oc, bl] 50)) (.cells #[.int .i64 k, .int .i64 D, .int .i64 A, .int .i64 B, .int .i64 fn, .int .i64 ob, .int .i64 of, .int .i64 sz, .int .u32 u, .slice aa na ac, .bool lg] 38)
  have CM : ∀ (j : Nat) (y : Value), (#[.slice ga nG gc, da, .slice pa nP pc, mn] : Array Value)[j]? = some y → (((w.alloc (.cells #[.slice ga nG gc, da, .slice pa nP pc, mn] 26)).alloc (.cells #[nm, vd, pr, .int .i64 R, .slice oa nO oc, bl] 50)).alloc (.cells #[.int .i64 k, .int .i64 D, .int .i64 A, .int .i64 B, .int .i64 fn, .int .i64 ob, .int .i64 of, .int .i64 sz, .int .u32 u, .slice aa na ac, .bool lg] 38)).cell? ⟨w.heap.size, j, none⟩ = some y := fun j y h => (fr_al (fr_al (Fr.refl (fun _ => False) _) _) _).cell (fcell w _ _ j y h) id
  have CP : ∀ (j : Nat) (y : Value), (#[nm, vd, pr, .int .i64 R, .slice oa nO oc, bl] : Array Value)[j]? = some y → (((w.alloc (.cells #[.slice ga nG gc, da, .slice pa nP pc, mn] 26)).alloc (.cells #[nm, vd, pr, .int .i64 R, .slice oa nO oc, bl] 50)).alloc (.cells #[.int .i64 k, .int .i64 D, .int .i64 A, .int .i64 B, .int .i64 fn, .int .i64 ob, .int .i64 of, .int .i64 sz, .int .u32 u, .slice aa na ac, .bool lg] 38)).cell? ⟨(w.alloc (.cells #[.slice ga nG gc, da, .slice pa nP pc, mn] 26)).heap.size, j, none⟩ = some y := fun j y h => (fr_al (Fr.refl (fun _ => False) _) _).cell (fcell (w.alloc (.cells #[.slice ga nG gc, da, .slice pa nP pc, mn] 26)) _ _ j y h) id
  have CI : ∀ (j : Nat) (y : Value), (#[.int .i64 k, .int .i64 D, .int .i64 A, .int .i64 B, .int .i64 fn, .int .i64 ob, .int .i64 of, .int .i64 sz, .int .u32 u, .slice aa na ac, .bool lg] : Array Value)[j]? = some y → (((w.alloc (.cells #[.slice ga nG gc, da, .slice pa nP pc, mn] 26)).alloc (.cells #[nm, vd, pr, .int .i64 R, .slice oa nO oc, bl] 50)).alloc (.cells #[.int .i64 k, .int .i64 D, .int .i64 A, .int .i64 B, .int .i64 fn, .int .i64 ob, .int .i64 of, .int .i64 sz, .int .u32 u, .slice aa na ac, .bool lg] 38)).cell? ⟨((w.alloc (.cells #[.slice ga nG gc, da, .slice pa nP pc, mn] 26)).alloc (.cells #[nm, vd, pr, .int .i64 R, .slice oa nO oc, bl] 50)).heap.size, j, none⟩ = some y := fun j y h => fcell ((w.alloc (.cells #[.slice ga nG gc, da, .slice pa nP pc, mn] 26)).alloc (.cells #[nm, vd, pr, .int .i64 R, .slice oa nO oc, bl] 50)) _ _ j y h
  generalize (((w.alloc (.cells #[.slice ga nG gc, da, .slice pa nP pc, mn] 26)).alloc (.cells #[nm, vd, pr, .int .i64 R, .slice oa nO oc, bl] 50)).alloc (.cells #[.int .i64 k, .int .i64 D, .int .i64 A, .int .i64 B, .int .i64 fn, .int .i64 ob, .int .i64 of, .int .i64 sz, .int .u32 u, .slice aa na ac, .bool lg] 38)) = V at *
  generalize ((w.alloc (.cells #[.slice ga nG gc, da, .slice pa nP pc, mn] 26)).alloc (.cells #[nm, vd, pr, .int .i64 R, .slice oa nO oc, bl] 50)).heap.size = b5 at *
  generalize (w.alloc (.cells #[.slice ga nG gc, da, .slice pa nP pc, mn] 26)).heap.size = b4 at *
  generalize w.heap.size = b3 at *
  refine TW.sreg ?_
  refine WL.op rfl rfl rfl (W.quiet_field rfl rfl (fi0 _)) ?_
  refine WL.op rfl rfl rfl (W.quiet_load rfl rfl (fun W hW => by rw [hW]; exact ld_int _ _ _ (CI 0 _ rfl))) ?_
  refine WL.call (hr := KF V) rfl rfl rfl rfl rfl (fun W => cf_fields W _) ?_
  rintro e w4 ⟨⟨g, rfl, hr⟩, hf⟩
  refine ⟨_, rfl, ?_⟩
  refine WL.op rfl rfl rfl (W.quiet_assign rfl rfl) ?_
  refine WL.nil ?_
  have hWW := F0.trans hf
  refine TW.to (fun W => Fr (fun _ => False) w4 W) (Fr.refl _ _) ?_
  refine T.sub (s' := [(3, .pointer (some ⟨b3, 0, none⟩)), (4, .pointer (some ⟨b4, 0, none⟩)), (5, .pointer (some ⟨b5, 0, none⟩)), (7, .slice (some ⟨g, 0, none⟩) 10 10)]) ?_ (fun a h => by (repeat (refine Kn.cons h rfl ?_)); exact h.base)
  have LI0 : ∀ W, Fr (fun _ => False) w4 W → (Instr.loadAt 3 (.pointer (some ⟨b5, 0, none⟩))).run Tryd.prog W = .ok (.int .i64 k) W := fun W hW => ld_int _ _ _ (hW.cell (hf.cell (CI 0 _ rfl) id) id)
  have LI1 : ∀ W, Fr (fun _ => False) w4 W → (Instr.loadAt 3 (.pointer (some ⟨b5, 1, none⟩))).run Tryd.prog W = .ok (.int .i64 D) W := fun W hW => ld_int _ _ _ (hW.cell (hf.cell (CI 1 _ rfl) id) id)
  have LI2 : ∀ W, Fr (fun _ => False) w4 W → (Instr.loadAt 3 (.pointer (some ⟨b5, 2, none⟩))).run Tryd.prog W = .ok (.int .i64 A) W := fun W hW => ld_int _ _ _ (hW.cell (hf.cell (CI 2 _ rfl) id) id)
  have LI3 : ∀ W, Fr (fun _ => False) w4 W → (Instr.loadAt 3 (.pointer (some ⟨b5, 3, none⟩))).run Tryd.prog W = .ok (.int .i64 B) W := fun W hW => ld_int _ _ _ (hW.cell (hf.cell (CI 3 _ rfl) id) id)
  have LI4 : ∀ W, Fr (fun _ => False) w4 W → (Instr.loadAt 3 (.pointer (some ⟨b5, 4, none⟩))).run Tryd.prog W = .ok (.int .i64 fn) W := fun W hW => ld_int _ _ _ (hW.cell (hf.cell (CI 4 _ rfl) id) id)
  have LI5 : ∀ W, Fr (fun _ => False) w4 W → (Instr.loadAt 3 (.pointer (some ⟨b5, 5, none⟩))).run Tryd.prog W = .ok (.int .i64 ob) W := fun W hW => ld_int _ _ _ (hW.cell (hf.cell (CI 5 _ rfl) id) id)
  have LI6 : ∀ W, Fr (fun _ => False) w4 W → (Instr.loadAt 3 (.pointer (some ⟨b5, 6, none⟩))).run Tryd.prog W = .ok (.int .i64 of) W := fun W hW => ld_int _ _ _ (hW.cell (hf.cell (CI 6 _ rfl) id) id)
  have LI7 : ∀ W, Fr (fun _ => False) w4 W → (Instr.loadAt 3 (.pointer (some ⟨b5, 7, none⟩))).run Tryd.prog W = .ok (.int .i64 sz) W := fun W hW => ld_int _ _ _ (hW.cell (hf.cell (CI 7 _ rfl) id) id)
  have LI8 : ∀ W, Fr (fun _ => False) w4 W → (Instr.loadAt 35 (.pointer (some ⟨b5, 8, none⟩))).run Tryd.prog W = .ok (.int .u32 u) W := fun W hW => ld_u32 _ _ _ (hW.cell (hf.cell (CI 8 _ rfl) id) id)
  have LI9 : ∀ W, Fr (fun _ => False) w4 W → (Instr.loadAt 36 (.pointer (some ⟨b5, 9, none⟩))).run Tryd.prog W = .ok (.slice aa na ac) W := fun W hW => ld_ints _ _ _ _ _ (hW.cell (hf.cell (CI 9 _ rfl) id) id)
  have LI10 : ∀ W, Fr (fun _ => False) w4 W → (Instr.loadAt 4 (.pointer (some ⟨b5, 10, none⟩))).run Tryd.prog W = .ok (.bool lg) W := fun W hW => ld_bool _ _ _ (hW.cell (hf.cell (CI 10 _ rfl) id) id)
  have LF0 : ∀ W, Fr (fun _ => False) w4 W → (Instr.loadAt 4 (.pointer (some ⟨g, 0, none⟩))).run Tryd.prog W = .ok (.bool f0) W := fun W hW => ld_bool _ _ _ (hW.cell (hr 0 _ rfl) id)
  have LF1 : ∀ W, Fr (fun _ => False) w4 W → (Instr.loadAt 4 (.pointer (some ⟨g, 1, none⟩))).run Tryd.prog W = .ok (.bool f1) W := fun W hW => ld_bool _ _ _ (hW.cell (hr 1 _ rfl) id)
  have LF2 : ∀ W, Fr (fun _ => False) w4 W → (Instr.loadAt 4 (.pointer (some ⟨g, 2, none⟩))).run Tryd.prog W = .ok (.bool f2) W := fun W hW => ld_bool _ _ _ (hW.cell (hr 2 _ rfl) id)
  have LF3 : ∀ W, Fr (fun _ => False) w4 W → (Instr.loadAt 4 (.pointer (some ⟨g, 3, none⟩))).run Tryd.prog W = .ok (.bool f3) W := fun W hW => ld_bool _ _ _ (hW.cell (hr 3 _ rfl) id)
  have LF4 : ∀ W, Fr (fun _ => False) w4 W → (Instr.loadAt 4 (.pointer (some ⟨g, 4, none⟩))).run Tryd.prog W = .ok (.bool f4) W := fun W hW => ld_bool _ _ _ (hW.cell (hr 4 _ rfl) id)
  have LF5 : ∀ W, Fr (fun _ => False) w4 W → (Instr.loadAt 4 (.pointer (some ⟨g, 5, none⟩))).run Tryd.prog W = .ok (.bool f5) W := fun W hW => ld_bool _ _ _ (hW.cell (hr 5 _ rfl) id)
  have LF6 : ∀ W, Fr (fun _ => False) w4 W → (Instr.loadAt 4 (.pointer (some ⟨g, 6, none⟩))).run Tryd.prog W = .ok (.bool f6) W := fun W hW => ld_bool _ _ _ (hW.cell (hr 6 _ rfl) id)
  have LF7 : ∀ W, Fr (fun _ => False) w4 W → (Instr.loadAt 4 (.pointer (some ⟨g, 7, none⟩))).run Tryd.prog W = .ok (.bool f7) W := fun W hW => ld_bool _ _ _ (hW.cell (hr 7 _ rfl) id)
  have LF8 : ∀ W, Fr (fun _ => False) w4 W → (Instr.loadAt 4 (.pointer (some ⟨g, 8, none⟩))).run Tryd.prog W = .ok (.bool f8) W := fun W hW => ld_bool _ _ _ (hW.cell (hr 8 _ rfl) id)
  have LF9 : ∀ W, Fr (fun _ => False) w4 W → (Instr.loadAt 4 (.pointer (some ⟨g, 9, none⟩))).run Tryd.prog W = .ok (.bool f9) W := fun W hW => ld_bool _ _ _ (hW.cell (hr 9 _ rfl) id)
  have LP : ∀ W, Fr (fun _ => False) w4 W → (Instr.loadAt 50 (.pointer (some ⟨b4, 0, none⟩))).run Tryd.prog W = .ok (.agg #[nm, vd, pr, .int .i64 R, .slice oa nO oc, bl]) W := fun W hW => ld_proc _ _ _ _ _ _ _ _ (hW.cell (hf.cell (CP 0 _ rfl) id) id) (hW.cell (hf.cell (CP 1 _ rfl) id) id) (hW.cell (hf.cell (CP 2 _ rfl) id) id) (hW.cell (hf.cell (CP 3 _ rfl) id) id) (hW.cell (hf.cell (CP 4 _ rfl) id) id) (hW.cell (hf.cell (CP 5 _ rfl) id) id)
  have LPO : ∀ W, Fr (fun _ => False) w4 W → (Instr.loadAt 22 (.pointer (some ⟨b4, 4, none⟩))).run Tryd.prog W = .ok (.slice oa nO oc) W := fun W hW => ld_slots _ _ _ _ _ (hW.cell (hf.cell (CP 4 _ rfl) id) id)
  have LMG : ∀ W, Fr (fun _ => False) w4 W → (Instr.loadAt 22 (.pointer (some ⟨b3, 0, none⟩))).run Tryd.prog W = .ok (.slice ga nG gc) W := fun W hW => ld_slots _ _ _ _ _ (hW.cell (hf.cell (CM 0 _ rfl) id) id)
  have KDq : ∀ W, Fr (fun _ => False) w4 W → Calls Tryd.prog 53 #[.agg #[nm, vd, pr, .int .i64 R, .slice oa nO oc, bl], .int .i64 D, .bool (!cv)] W fun e w' => e = .returned (.bool bD) ∧ Fr (fun _ => False) w4 w' := fun W hW => callQ hW (KD W)
  have LMP : ∀ W, Fr (fun _ => False) w4 W → (Instr.loadAt 24 (.pointer (some ⟨b3, 2, none⟩))).run Tryd.prog W = .ok (.slice pa nP pc) W := fun W hW => ld_procs _ _ _ _ _ (hW.cell (hf.cell (CM 2 _ rfl) id) id)
  have HWF := F0.trans hf
  clear hr hf CM CP CI F0 KF KD
  refine T.seq ?_
  refine T.sreg ((14, .bool false) :: [(3, .pointer (some ⟨b3, 0, none⟩)), (4, .pointer (some ⟨b4, 0, none⟩)), (5, .pointer (some ⟨b5, 0, none⟩)), (7, .slice (some ⟨g, 0, none⟩) 10 10)]) ?_ ?_
  ·
    refine W.op rfl rfl rfl (W.quiet_move rfl rfl) ?_
    refine W.op rfl rfl rfl (W.quiet_len rfl rfl (fun W => ln_f W _ _ _)) ?_
    refine W.op rfl rfl rfl (W.quiet_bin rfl rfl rfl (by first | exact Bk9 _ _ | exact Bk3 _ _ | exact Bk4 _ _ | exact Bk7 _ _ | exact Bk8 _ _ | exact B10 _ _)) ?_
    exact W.nil (fun a h => by (repeat (refine Kn.cons h rfl ?_)); exact h.base)
  refine T.cond rfl (fun e => by cases e) (fun _ => ?_)
  refine T.skip ?_
  refine T.seq ?_
  refine T.sreg ((89, .bool ((!f3 && nfn) || (!f4 && nob) || (!f5 && nof) || (!f6 && nsz) || (!f7 && nu) || (!f8 && nna) || (!f9 && lg))) :: [(3, .pointer (some ⟨b3, 0, none⟩)), (4, .pointer (some ⟨b4, 0, none⟩)), (5, .pointer (some ⟨b5, 0, none⟩)), (7, .slice (some ⟨g, 0, none⟩) 10 10)]) ?_ ?_
  ·
    refine W.cut 10 ((24, .bool ((!f3 && nfn))) :: [(3, .pointer (some ⟨b3, 0, none⟩)), (4, .pointer (some ⟨b4, 0, none⟩)), (5, .pointer (some ⟨b5, 0, none⟩)), (7, .slice (some ⟨g, 0, none⟩) 10 10)]) ?_ ?_
    · cases f3 <;> cases nfn
      all_goals
        refine W.op rfl rfl rfl (W.quiet_move rfl rfl) ?_
        refine W.op rfl rfl rfl (W.quiet_index rfl rfl rfl (ix3 _)) ?_
        refine W.op rfl rfl rfl (W.quiet_load rfl rfl (by first | exact LF0 | exact LF1 | exact LF2 | exact LF3 | exact LF4 | exact LF5 | exact LF6 | exact LF7 | exact LF8 | exact LF9 | exact LI10)) ?_
        refine W.op rfl rfl rfl (W.quiet_not rfl rfl) ?_
        refine W.op rfl rfl rfl (W.quiet_move rfl rfl) ?_
        first
        | refine W.skip rfl rfl rfl ?_
        | refine W.op rfl rfl rfl (W.quiet_field rfl rfl (fi4 _)) ?_
        first
        | refine W.skip rfl rfl rfl ?_
        | refine W.op rfl rfl rfl (W.quiet_load rfl rfl (by first | exact LI0 | exact LI1 | exact LI2 | exact LI3 | exact LI4 | exact LI5 | exact LI6 | exact LI7)) ?_
        first
        | refine W.skip rfl rfl rfl ?_
        | refine W.op rfl rfl rfl (W.quiet_bin rfl rfl rfl (by first | exact Bfn _ _ | exact Bob _ _ | exact Bof _ _ | exact Bsz _ _ | exact Bu _ _ | exact Bn1 _ _ | exact Bn4 _ _)) ?_
        refine W.op rfl rfl rfl (W.quiet_pick rfl rfl rfl) ?_
        refine W.op rfl rfl rfl (W.quiet_move rfl rfl) ?_
        exact W.nil (fun a h => by (repeat (refine Kn.cons h rfl ?_)); exact h.base)
    refine W.cut 11 ((35, .bool ((!f3 && nfn) || (!f4 && nob))) :: [(3, .pointer (some ⟨b3, 0, none⟩)), (4, .pointer (some ⟨b4, 0, none⟩)), (5, .pointer (some ⟨b5, 0, none⟩)), (7, .slice (some ⟨g, 0, none⟩) 10 10)]) ?_ ?_
    · generalize ((!f3 && nfn)) = p at *
      cases p <;> cases f4 <;> cases nob
      all_goals
        first
        | refine W.skip rfl rfl rfl ?_
        | refine W.op rfl rfl rfl (W.quiet_move rfl rfl) ?_
        first
        | refine W.skip rfl rfl rfl ?_
        | refine W.op rfl rfl rfl (W.quiet_index rfl rfl rfl (ix4 _)) ?_
        first
        | refine W.skip rfl rfl rfl ?_
        | refine W.op rfl rfl rfl (W.quiet_load rfl rfl (by first | exact LF0 | exact LF1 | exact LF2 | exact LF3 | exact LF4 | exact LF5 | exact LF6 | exact LF7 | exact LF8 | exact LF9 | exact LI10)) ?_
        first
        | refine W.skip rfl rfl rfl ?_
        | refine W.op rfl rfl rfl (W.quiet_not rfl rfl) ?_
        first
        | refine W.skip rfl rfl rfl ?_
        | refine W.op rfl rfl rfl (W.quiet_move rfl rfl) ?_
        first
        | refine W.skip rfl rfl rfl ?_
        | refine W.op rfl rfl rfl (W.quiet_field rfl rfl (fi5 _)) ?_
        first
        | refine W.skip rfl rfl rfl ?_
        | refine W.op rfl rfl rfl (W.quiet_load rfl rfl (by first | exact LI0 | exact LI1 | exact LI2 | exact LI3 | exact LI4 | exact LI5 | exact LI6 | exact LI7)) ?_
        first
        | refine W.skip rfl rfl rfl ?_
        | refine W.op rfl rfl rfl (W.quiet_bin rfl rfl rfl (by first | exact Bfn _ _ | exact Bob _ _ | exact Bof _ _ | exact Bsz _ _ | exact Bu _ _ | exact Bn1 _ _ | exact Bn4 _ _)) ?_
        first
        | refine W.skip rfl rfl rfl ?_
        | refine W.op rfl rfl rfl (W.quiet_pick rfl rfl rfl) ?_
        refine W.op rfl rfl rfl (W.quiet_pick rfl rfl rfl) ?_
        refine W.op rfl rfl rfl (W.quiet_move rfl rfl) ?_
        exact W.nil (fun a h => by (repeat (refine Kn.cons h rfl ?_)); exact h.base)
    refine W.cut 11 ((46, .bool ((!f3 && nfn) || (!f4 && nob) || (!f5 && nof))) :: [(3, .pointer (some ⟨b3, 0, none⟩)), (4, .pointer (some ⟨b4, 0, none⟩)), (5, .pointer (some ⟨b5, 0, none⟩)), (7, .slice (some ⟨g, 0, none⟩) 10 10)]) ?_ ?_
    · generalize ((!f3 && nfn) || (!f4 && nob)) = p at *
      cases p <;> cases f5 <;> cases nof
      all_goals
        first
        | refine W.skip rfl rfl rfl ?_
        | refine W.op rfl rfl rfl (W.quiet_move rfl rfl) ?_
        first
        | refine W.skip rfl rfl rfl ?_
        | refine W.op rfl rfl rfl (W.quiet_index rfl rfl rfl (ix5 _)) ?_
        first
        | refine W.skip rfl rfl rfl ?_
        | refine W.op rfl rfl rfl (W.quiet_load rfl rfl (by first | exact LF0 | exact LF1 | exact LF2 | exact LF3 | exact LF4 | exact LF5 | exact LF6 | exact LF7 | exact LF8 | exact LF9 | exact LI10)) ?_
        first
        | refine W.skip rfl rfl rfl ?_
        | refine W.op rfl rfl rfl (W.quiet_not rfl rfl) ?_
        first
        | refine W.skip rfl rfl rfl ?_
        | refine W.op rfl rfl rfl (W.quiet_move rfl rfl) ?_
        first
        | refine W.skip rfl rfl rfl ?_
        | refine W.op rfl rfl rfl (W.quiet_field rfl rfl (fi6 _)) ?_
        first
        | refine W.skip rfl rfl rfl ?_
        | refine W.op rfl rfl rfl (W.quiet_load rfl rfl (by first | exact LI0 | exact LI1 | exact LI2 | exact LI3 | exact LI4 | exact LI5 | exact LI6 | exact LI7)) ?_
        first
        | refine W.skip rfl rfl rfl ?_
        | refine W.op rfl rfl rfl (W.quiet_bin rfl rfl rfl (by first | exact Bfn _ _ | exact Bob _ _ | exact Bof _ _ | exact Bsz _ _ | exact Bu _ _ | exact Bn1 _ _ | exact Bn4 _ _)) ?_
        first
        | refine W.skip rfl rfl rfl ?_
        | refine W.op rfl rfl rfl (W.quiet_pick rfl rfl rfl) ?_
        refine W.op rfl rfl rfl (W.quiet_pick rfl rfl rfl) ?_
        refine W.op rfl rfl rfl (W.quiet_move rfl rfl) ?_
        exact W.nil (fun a h => by (repeat (refine Kn.cons h rfl ?_)); exact h.base)
    refine W.cut 11 ((57, .bool ((!f3 && nfn) || (!f4 && nob) || (!f5 && nof) || (!f6 && nsz))) :: [(3, .pointer (some ⟨b3, 0, none⟩)), (4, .pointer (some ⟨b4, 0, none⟩)), (5, .pointer (some ⟨b5, 0, none⟩)), (7, .slice (some ⟨g, 0, none⟩) 10 10)]) ?_ ?_
    · generalize ((!f3 && nfn) || (!f4 && nob) || (!f5 && nof)) = p at *
      cases p <;> cases f6 <;> cases nsz
      all_goals
        first
        | refine W.skip rfl rfl rfl ?_
        | refine W.op rfl rfl rfl (W.quiet_move rfl rfl) ?_
        first
        | refine W.skip rfl rfl rfl ?_
        | refine W.op rfl rfl rfl (W.quiet_index rfl rfl rfl (ix6 _)) ?_
        first
        | refine W.skip rfl rfl rfl ?_
        | refine W.op rfl rfl rfl (W.quiet_load rfl rfl (by first | exact LF0 | exact LF1 | exact LF2 | exact LF3 | exact LF4 | exact LF5 | exact LF6 | exact LF7 | exact LF8 | exact LF9 | exact LI10)) ?_
        first
        | refine W.skip rfl rfl rfl ?_
        | refine W.op rfl rfl rfl (W.quiet_not rfl rfl) ?_
        first
        | refine W.skip rfl rfl rfl ?_
        | refine W.op rfl rfl rfl (W.quiet_move rfl rfl) ?_
        first
        | refine W.skip rfl rfl rfl ?_
        | refine W.op rfl rfl rfl (W.quiet_field rfl rfl (fi7 _)) ?_
        first
        | refine W.skip rfl rfl rfl ?_
        | refine W.op rfl rfl rfl (W.quiet_load rfl rfl (by first | exact LI0 | exact LI1 | exact LI2 | exact LI3 | exact LI4 | exact LI5 | exact LI6 | exact LI7)) ?_
        first
        | refine W.skip rfl rfl rfl ?_
        | refine W.op rfl rfl rfl (W.quiet_bin rfl rfl rfl (by first | exact Bfn _ _ | exact Bob _ _ | exact Bof _ _ | exact Bsz _ _ | exact Bu _ _ | exact Bn1 _ _ | exact Bn4 _ _)) ?_
        first
        | refine W.skip rfl rfl rfl ?_
        | refine W.op rfl rfl rfl (W.quiet_pick rfl rfl rfl) ?_
        refine W.op rfl rfl rfl (W.quiet_pick rfl rfl rfl) ?_
        refine W.op rfl rfl rfl (W.quiet_move rfl rfl) ?_
        exact W.nil (fun a h => by (repeat (refine Kn.cons h rfl ?_)); exact h.base)
    refine W.cut 11 ((68, .bool ((!f3 && nfn) || (!f4 && nob) || (!f5 && nof) || (!f6 && nsz) || (!f7 && nu))) :: [(3, .pointer (some ⟨b3, 0, none⟩)), (4, .pointer (some ⟨b4, 0, none⟩)), (5, .pointer (some ⟨b5, 0, none⟩)), (7, .slice (some ⟨g, 0, none⟩) 10 10)]) ?_ ?_
    · generalize ((!f3 && nfn) || (!f4 && nob) || (!f5 && nof) || (!f6 && nsz)) = p at *
      cases p <;> cases f7 <;> cases nu
      all_goals
        first
        | refine W.skip rfl rfl rfl ?_
        | refine W.op rfl rfl rfl (W.quiet_move rfl rfl) ?_
        first
        | refine W.skip rfl rfl rfl ?_
        | refine W.op rfl rfl rfl (W.quiet_index rfl rfl rfl (ix7 _)) ?_
        first
        | refine W.skip rfl rfl rfl ?_
        | refine W.op rfl rfl rfl (W.quiet_load rfl rfl (by first | exact LF0 | exact LF1 | exact LF2 | exact LF3 | exact LF4 | exact LF5 | exact LF6 | exact LF7 | exact LF8 | exact LF9 | exact LI10)) ?_
        first
        | refine W.skip rfl rfl rfl ?_
        | refine W.op rfl rfl rfl (W.quiet_not rfl rfl) ?_
        first
        | refine W.skip rfl rfl rfl ?_
        | refine W.op rfl rfl rfl (W.quiet_move rfl rfl) ?_
        first
        | refine W.skip rfl rfl rfl ?_
        | refine W.op rfl rfl rfl (W.quiet_field rfl rfl (fi8 _)) ?_
        first
        | refine W.skip rfl rfl rfl ?_
        | refine W.op rfl rfl rfl (W.quiet_load rfl rfl (by first | exact LI8)) ?_
        first
        | refine W.skip rfl rfl rfl ?_
        | refine W.op rfl rfl rfl (W.quiet_bin rfl rfl rfl (by first | exact Bfn _ _ | exact Bob _ _ | exact Bof _ _ | exact Bsz _ _ | exact Bu _ _ | exact Bn1 _ _ | exact Bn4 _ _)) ?_
        first
        | refine W.skip rfl rfl rfl ?_
        | refine W.op rfl rfl rfl (W.quiet_pick rfl rfl rfl) ?_
        refine W.op rfl rfl rfl (W.quiet_pick rfl rfl rfl) ?_
        refine W.op rfl rfl rfl (W.quiet_move rfl rfl) ?_
        exact W.nil (fun a h => by (repeat (refine Kn.cons h rfl ?_)); exact h.base)
    refine W.cut 12 ((80, .bool ((!f3 && nfn) || (!f4 && nob) || (!f5 && nof) || (!f6 && nsz) || (!f7 && nu) || (!f8 && nna))) :: [(3, .pointer (some ⟨b3, 0, none⟩)), (4, .pointer (some ⟨b4, 0, none⟩)), (5, .pointer (some ⟨b5, 0, none⟩)), (7, .slice (some ⟨g, 0, none⟩) 10 10)]) ?_ ?_
    · generalize ((!f3 && nfn) || (!f4 && nob) || (!f5 && nof) || (!f6 && nsz) || (!f7 && nu)) = p at *
      cases p <;> cases f8 <;> cases nna
      all_goals
        first
        | refine W.skip rfl rfl rfl ?_
        | refine W.op rfl rfl rfl (W.quiet_move rfl rfl) ?_
        first
        | refine W.skip rfl rfl rfl ?_
        | refine W.op rfl rfl rfl (W.quiet_index rfl rfl rfl (ix8 _)) ?_
        first
        | refine W.skip rfl rfl rfl ?_
        | refine W.op rfl rfl rfl (W.quiet_load rfl rfl (by first | exact LF0 | exact LF1 | exact LF2 | exact LF3 | exact LF4 | exact LF5 | exact LF6 | exact LF7 | exact LF8 | exact LF9 | exact LI10)) ?_
        first
        | refine W.skip rfl rfl rfl ?_
        | refine W.op rfl rfl rfl (W.quiet_not rfl rfl) ?_
        first
        | refine W.skip rfl rfl rfl ?_
        | refine W.op rfl rfl rfl (W.quiet_move rfl rfl) ?_
        first
        | refine W.skip rfl rfl rfl ?_
        | refine W.op rfl rfl rfl (W.quiet_field rfl rfl (fi9 _)) ?_
        first
        | refine W.skip rfl rfl rfl ?_
        | refine W.op rfl rfl rfl (W.quiet_load rfl rfl (by first | exact LI9)) ?_
        first
        | refine W.skip rfl rfl rfl ?_
        | refine W.op rfl rfl rfl (W.quiet_len rfl rfl (fun W => ln_i W _ _ _)) ?_
        first
        | refine W.skip rfl rfl rfl ?_
        | refine W.op rfl rfl rfl (W.quiet_bin rfl rfl rfl (by first | exact Bna _ _ | exact Bg16 _ _ | exact Bg19 _ _ | exact Bhi _ _)) ?_
        first
        | refine W.skip rfl rfl rfl ?_
        | refine W.op rfl rfl rfl (W.quiet_pick rfl rfl rfl) ?_
        refine W.op rfl rfl rfl (W.quiet_pick rfl rfl rfl) ?_
        refine W.op rfl rfl rfl (W.quiet_move rfl rfl) ?_
        exact W.nil (fun a h => by (repeat (refine Kn.cons h rfl ?_)); exact h.base)
    generalize ((!f3 && nfn) || (!f4 && nob) || (!f5 && nof) || (!f6 && nsz) || (!f7 && nu) || (!f8 && nna)) = p at *
    cases p <;> cases f9 <;> cases lg
    all_goals
      first
      | refine W.skip rfl rfl rfl ?_
      | refine W.op rfl rfl rfl (W.quiet_move rfl rfl) ?_
      first
      | refine W.skip rfl rfl rfl ?_
      | refine W.op rfl rfl rfl (W.quiet_index rfl rfl rfl (ix9 _)) ?_
      first
      | refine W.skip rfl rfl rfl ?_
      | refine W.op rfl rfl rfl (W.quiet_load rfl rfl (by first | exact LF0 | exact LF1 | exact LF2 | exact LF3 | exact LF4 | exact LF5 | exact LF6 | exact LF7 | exact LF8 | exact LF9 | exact LI10)) ?_
      first
      | refine W.skip rfl rfl rfl ?_
      | refine W.op rfl rfl rfl (W.quiet_not rfl rfl) ?_
      first
      | refine W.skip rfl rfl rfl ?_
      | refine W.op rfl rfl rfl (W.quiet_move rfl rfl) ?_
      first
      | refine W.skip rfl rfl rfl ?_
      | refine W.op rfl rfl rfl (W.quiet_field rfl rfl (fi10 _)) ?_
      first
      | refine W.skip rfl rfl rfl ?_
      | refine W.op rfl rfl rfl (W.quiet_load rfl rfl (by first | exact LF0 | exact LF1 | exact LF2 | exact LF3 | exact LF4 | exact LF5 | exact LF6 | exact LF7 | exact LF8 | exact LF9 | exact LI10)) ?_
      first
      | refine W.skip rfl rfl rfl ?_
      | refine W.op rfl rfl rfl (W.quiet_pick rfl rfl rfl) ?_
      refine W.op rfl rfl rfl (W.quiet_pick rfl rfl rfl) ?_
      exact W.nil (fun a h => by (repeat (refine Kn.cons h rfl ?_)); exact h.base)
  rw [show ((!f3 && nfn) || (!f4 && nob) || (!f5 && nof) || (!f6 && nsz) || (!f7 && nu) || (!f8 && nna) || (!f9 && lg)) = c4 from by rw [h4]]
  refine T.cond rfl (fun hb => ?_) (fun _ => ?_)
  ·
    refine T.sreg [(6, .bool false)] ?_ (T.ret ?_)
    · refine W.op rfl rfl rfl (W.quiet_assign rfl rfl) ?_
      exact W.nil (fun a h => by (repeat (refine Kn.cons h rfl ?_)); exact h.base)
    · repeat (with_reducible refine Rt.thn ?_)
      refine body_ret rfl rfl ?_
      exact fun W hW => ⟨⟨_, rfl, iff_of_false Bool.false_ne_true (fun z => by simp [hb] at z)⟩, hWW.trans hW⟩
  refine T.skip ?_
  refine T.seq ?_
  refine T.sreg ((92, .bool true) :: [(3, .pointer (some ⟨b3, 0, none⟩)), (4, .pointer (some ⟨b4, 0, none⟩)), (5, .pointer (some ⟨b5, 0, none⟩)), (7, .slice (some ⟨g, 0, none⟩) 10 10)]) ?_ ?_
  ·
    refine W.op rfl rfl rfl (W.quiet_field rfl rfl (fi0 _)) ?_
    refine W.op rfl rfl rfl (W.quiet_load rfl rfl (by first | exact LI0 | exact LI1 | exact LI2 | exact LI3 | exact LI4 | exact LI5 | exact LI6 | exact LI7 | exact LPA | exact LX)) ?_
    refine W.op rfl rfl rfl (W.quiet_bin rfl rfl rfl (by first | exact Bk9 _ _ | exact B10 _ _ | exact BeA _ _ | exact BeB _ _)) ?_
    exact W.nil (fun a h => by (repeat (refine Kn.cons h rfl ?_)); exact h.base)
  refine T.cond rfl (fun _ => ?_) (fun e => by cases e)
  refine T.seq ?_
  refine T.sregD (by kernel_rfl) lexR7 (fun W hW => hW.drewN 1) ((131, .bool ((lo9 || hi9) || ne9 || !bD)) :: [(3, .pointer (some ⟨b3, 0, none⟩)), (4, .pointer (some ⟨b4, 0, none⟩)), (5, .pointer (some ⟨b5, 0, none⟩)), (7, .slice (some ⟨g, 0, none⟩) 10 10)]) ?_ ?_
  · refine W.cut 12 ((104, .bool (lo9 || hi9)) :: [(3, .pointer (some ⟨b3, 0, none⟩)), (4, .pointer (some ⟨b4, 0, none⟩)), (5, .pointer (some ⟨b5, 0, none⟩)), (7, .slice (some ⟨g, 0, none⟩) 10 10)]) ?_ ?_
    · cases lo9 <;> cases hi9
      all_goals
        refine W.op rfl rfl rfl (W.quiet_field rfl rfl (fi5 _)) ?_
        refine W.op rfl rfl rfl (W.quiet_load rfl rfl (by first | exact LI0 | exact LI1 | exact LI2 | exact LI3 | exact LI4 | exact LI5 | exact LI6 | exact LI7 | exact LPA | exact LX)) ?_
        refine W.op rfl rfl rfl (W.quiet_bin rfl rfl rfl (by first | exact Blo9 _ _ | exact Blj _ _)) ?_
        refine W.op rfl rfl rfl (W.quiet_move rfl rfl) ?_
        first
        | refine W.skip rfl rfl rfl ?_
        | refine W.op rfl rfl rfl (W.quiet_field rfl rfl (fi5 _)) ?_
        first
        | refine W.skip rfl rfl rfl ?_
        | refine W.op rfl rfl rfl (W.quiet_load rfl rfl (by first | exact LI0 | exact LI1 | exact LI2 | exact LI3 | exact LI4 | exact LI5 | exact LI6 | exact LI7 | exact LPA | exact LX)) ?_
        first
        | refine W.skip rfl rfl rfl ?_
        | refine W.op rfl rfl rfl (W.quiet_field rfl rfl (fm2 _)) ?_
        first
        | refine W.skip rfl rfl rfl ?_
        | refine W.op rfl rfl rfl (W.quiet_load rfl rfl (by first | exact LMP)) ?_
        first
        | refine W.skip rfl rfl rfl ?_
        | refine W.op rfl rfl rfl (W.quiet_len rfl rfl (fun W => ln_p W _ _ _)) ?_
        first
        | refine W.skip rfl rfl rfl ?_
        | refine W.op rfl rfl rfl (W.quiet_bin rfl rfl rfl (by first | exact Bhi9 _ _)) ?_
        refine W.op rfl rfl rfl (W.quiet_pick rfl rfl rfl) ?_
        refine W.op rfl rfl rfl (W.quiet_move rfl rfl) ?_
        exact W.nil (fun a h => by (repeat (refine Kn.cons h rfl ?_)); exact h.base)
    generalize (lo9 || hi9) = p at *
    cases p
    · obtain ⟨pg, po, j, rfl, hj, rfl, cv1, cp1⟩ := hcal rfl
      have IXP := fun W => ixp W pg po nP pc j hj
      have LPA : ∀ W, Fr (fun _ => False) w4 W → (Instr.loadAt 3 (.pointer (some ⟨pg, po + j * 6 + 2, none⟩))).run Tryd.prog W = .ok (.int .i64 cp) W := fun W hW => ld_int _ _ _ (hW.cell (HWF.cell cp1 id) id)
      have LPV : ∀ W, Fr (fun _ => False) w4 W → (Instr.loadAt 4 (.pointer (some ⟨pg, po + j * 6 + 1, none⟩))).run Tryd.prog W = .ok (.bool cv) W := fun W hW => ld_bool _ _ _ (hW.cell (HWF.cell cv1 id) id)
      refine W.cut 13 ((117, .bool ne9) :: [(3, .pointer (some ⟨b3, 0, none⟩)), (4, .pointer (some ⟨b4, 0, none⟩)), (5, .pointer (some ⟨b5, 0, none⟩)), (7, .slice (some ⟨g, 0, none⟩) 10 10)]) ?_ ?_
      · cases ne9
        all_goals
          first
          | refine W.skip rfl rfl rfl ?_
          | refine W.op rfl rfl rfl (W.quiet_field rfl rfl (fi9 _)) ?_
          first
          | refine W.skip rfl rfl rfl ?_
          | refine W.op rfl rfl rfl (W.quiet_load rfl rfl (by first | exact LI9)) ?_
          first
          | refine W.skip rfl rfl rfl ?_
          | refine W.op rfl rfl rfl (W.quiet_len rfl rfl (fun W => ln_i W _ _ _)) ?_
          first
          | refine W.skip rfl rfl rfl ?_
          | refine W.op rfl rfl rfl (W.quiet_field rfl rfl (fm2 _)) ?_
          first
          | refine W.skip rfl rfl rfl ?_
          | refine W.op rfl rfl rfl (W.quiet_load rfl rfl (by first | exact LMP)) ?_
          first
          | refine W.skip rfl rfl rfl ?_
          | refine W.op rfl rfl rfl (W.quiet_field rfl rfl (fi5 _)) ?_
          first
          | refine W.skip rfl rfl rfl ?_
          | refine W.op rfl rfl rfl (W.quiet_load rfl rfl (by first | exact LI0 | exact LI1 | exact LI2 | exact LI3 | exact LI4 | exact LI5 | exact LI6 | exact LI7 | exact LPA | exact LX)) ?_
          first
          | refine W.skip rfl rfl rfl ?_
          | refine W.op rfl rfl rfl (W.quiet_index rfl rfl rfl IXP) ?_
          first
          | refine W.skip rfl rfl rfl ?_
          | refine W.op rfl rfl rfl (W.quiet_field rfl rfl (fp2 _ _)) ?_
          first
          | refine W.skip rfl rfl rfl ?_
          | refine W.op rfl rfl rfl (W.quiet_load rfl rfl (by first | exact LI0 | exact LI1 | exact LI2 | exact LI3 | exact LI4 | exact LI5 | exact LI6 | exact LI7 | exact LPA | exact LX)) ?_
          first
          | refine W.skip rfl rfl rfl ?_
          | refine W.op rfl rfl rfl (W.quiet_bin rfl rfl rfl (by first | exact Bfn _ _ | exact Bob _ _ | exact Bof _ _ | exact Bsz _ _ | exact Bu _ _ | exact BnD _ _ | exact Bne _ _)) ?_
          refine W.op rfl rfl rfl (W.quiet_pick rfl rfl rfl) ?_
          refine W.op rfl rfl rfl (W.quiet_move rfl rfl) ?_
          exact W.nil (fun a h => by (repeat (refine Kn.cons h rfl ?_)); exact h.base)
      cases ne9 <;> cases bD
      all_goals
        first
        | refine W.skip rfl rfl rfl ?_
        | refine W.op rfl rfl rfl (W.quiet_load rfl rfl (by first | exact LP)) ?_
        first
        | refine W.skip rfl rfl rfl ?_
        | refine W.op rfl rfl rfl (W.quiet_field rfl rfl (fi1 _)) ?_
        first
        | refine W.skip rfl rfl rfl ?_
        | refine W.op rfl rfl rfl (W.quiet_load rfl rfl (by first | exact LI0 | exact LI1 | exact LI2 | exact LI3 | exact LI4 | exact LI5 | exact LI6 | exact LI7 | exact LPA | exact LX)) ?_
        first
        | refine W.skip rfl rfl rfl ?_
        | refine W.op rfl rfl rfl (W.quiet_field rfl rfl (fm2 _)) ?_
        first
        | refine W.skip rfl rfl rfl ?_
        | refine W.op rfl rfl rfl (W.quiet_load rfl rfl (by first | exact LMP)) ?_
        first
        | refine W.skip rfl rfl rfl ?_
        | refine W.op rfl rfl rfl (W.quiet_field rfl rfl (fi5 _)) ?_
        first
        | refine W.skip rfl rfl rfl ?_
        | refine W.op rfl rfl rfl (W.quiet_load rfl rfl (by first | exact LI0 | exact LI1 | exact LI2 | exact LI3 | exact LI4 | exact LI5 | exact LI6 | exact LI7 | exact LPA | exact LX)) ?_
        first
        | refine W.skip rfl rfl rfl ?_
        | refine W.op rfl rfl rfl (W.quiet_index rfl rfl rfl IXP) ?_
        first
        | refine W.skip rfl rfl rfl ?_
        | refine W.op rfl rfl rfl (W.quiet_field rfl rfl (fp1 _ _)) ?_
        first
        | refine W.skip rfl rfl rfl ?_
        | refine W.op rfl rfl rfl (W.quiet_load rfl rfl (by first | exact LF0 | exact LF1 | exact LF2 | exact LF3 | exact LF4 | exact LF5 | exact LF6 | exact LF7 | exact LF8 | exact LF9 | exact LI10 | exact LPV)) ?_
        first
        | refine W.skip rfl rfl rfl ?_
        | refine W.op rfl rfl rfl (W.quiet_not rfl rfl) ?_
        first
        | refine W.skip rfl rfl rfl ?_
        | refine W.op rfl rfl rfl (W.quiet_call (hr := KDq) rfl rfl (fun W => cf_reg W _)) ?_
        | refine W.op rfl rfl rfl (W.quiet_call (hr := KXq) rfl rfl (fun W => cf_reg W _)) ?_
        first
        | refine W.skip rfl rfl rfl ?_
        | refine W.op rfl rfl rfl (W.quiet_not rfl rfl) ?_
        refine W.op rfl rfl rfl (W.quiet_pick rfl rfl rfl) ?_
        exact W.nil (fun a h => by (repeat (refine Kn.cons h rfl ?_)); exact h.base)
    ·
      refine W.skip rfl rfl rfl ?_
      refine W.skip rfl rfl rfl ?_
      refine W.skip rfl rfl rfl ?_
      refine W.skip rfl rfl rfl ?_
      refine W.skip rfl rfl rfl ?_
      refine W.skip rfl rfl rfl ?_
      refine W.skip rfl rfl rfl ?_
      refine W.skip rfl rfl rfl ?_
      refine W.skip rfl rfl rfl ?_
      refine W.skip rfl rfl rfl ?_
      refine W.skip rfl rfl rfl ?_
      refine W.op rfl rfl rfl (W.quiet_pick rfl rfl rfl) ?_
      refine W.op rfl rfl rfl (W.quiet_move rfl rfl) ?_
      refine W.skip rfl rfl rfl ?_
      refine W.skip rfl rfl rfl ?_
      refine W.skip rfl rfl rfl ?_
      refine W.skip rfl rfl rfl ?_
      refine W.skip rfl rfl rfl ?_
      refine W.skip rfl rfl rfl ?_
      refine W.skip rfl rfl rfl ?_
      refine W.skip rfl rfl rfl ?_
      refine W.skip rfl rfl rfl ?_
      refine W.skip rfl rfl rfl ?_
      refine W.skip rfl rfl rfl ?_
      refine W.skip rfl rfl rfl ?_
      refine W.skip rfl rfl rfl ?_
      refine W.op rfl rfl rfl (W.quiet_pick rfl rfl rfl) ?_
      exact W.nil (fun a h => by (repeat (refine Kn.cons h rfl ?_)); exact h.base)
  rw [show ((lo9 || hi9) || ne9 || !bD) = c7 from by rw [h7]]
  refine T.cond rfl (fun hb => ?_) (fun h7f => ?_)
  ·
    refine T.sreg [(6, .bool false)] ?_ (T.ret ?_)
    · refine W.op rfl rfl rfl (W.quiet_assign rfl rfl) ?_
      exact W.nil (fun a h => by (repeat (refine Kn.cons h rfl ?_)); exact h.base)
    · repeat (with_reducible first | refine Rt.thn ?_ | refine Rt.blk ?_)
      refine body_ret rfl rfl ?_
      exact fun W hW => ⟨⟨_, rfl, iff_of_false Bool.false_ne_true (fun z => by simp [hb] at z)⟩, hWW.trans hW⟩
  refine T.skip ?_
  clear hcal
  refine T.seq ?_
  refine T.sreg ((8, .int .i64 ((0 : Nat) : Int)) :: [(3, .pointer (some ⟨b3, 0, none⟩)), (4, .pointer (some ⟨b4, 0, none⟩)), (5, .pointer (some ⟨b5, 0, none⟩)), (7, .slice (some ⟨g, 0, none⟩) 10 10)]) ?_ ?_
  · refine W.op rfl rfl rfl (W.quiet_assign rfl rfl) ?_
    exact W.nil (fun a h => by (repeat (refine Kn.cons h rfl ?_)); exact h.base)
  refine T.block ?_
  refine T.loop (t := 8) (n := na) (fun j => (8, .int .i64 (j : Int)) :: [(3, .pointer (some ⟨b3, 0, none⟩)), (4, .pointer (some ⟨b4, 0, none⟩)), (5, .pointer (some ⟨b5, 0, none⟩)), (7, .slice (some ⟨g, 0, none⟩) 10 10)]) (fun j => ∀ i, i < j → RgP R (args.getD i 0)) (fun j => rfl) (fun a h => h) (fun i hi => absurd hi (by omega)) ?_
  intro j hj hJ
  have Blj := fun x y W => bn_lt (j : Int) (na : Int) x y W
  refine T.seq ?_
  refine T.sreg ((136, .bool (decide ((j : Int) < (na : Int)))) :: (8, .int .i64 (j : Int)) :: [(3, .pointer (some ⟨b3, 0, none⟩)), (4, .pointer (some ⟨b4, 0, none⟩)), (5, .pointer (some ⟨b5, 0, none⟩)), (7, .slice (some ⟨g, 0, none⟩) 10 10)]) ?_ ?_
  ·
    refine W.op rfl rfl rfl (W.quiet_move rfl rfl) ?_
    refine W.op rfl rfl rfl (W.quiet_field rfl rfl (fi9 _)) ?_
    refine W.op rfl rfl rfl (W.quiet_load rfl rfl (by first | exact LI9)) ?_
    refine W.op rfl rfl rfl (W.quiet_len rfl rfl (fun W => ln_i W _ _ _)) ?_
    refine W.op rfl rfl rfl (W.quiet_bin rfl rfl rfl (by first | exact Blo9 _ _ | exact Blj _ _)) ?_
    exact W.nil (fun a h => by (repeat (refine Kn.cons h rfl ?_)); exact h.base)
  refine T.cond rfl (fun hlt => ?_) (fun hge => ?_)
  rotate_left
  · have hjn : j = na := by have := of_decide_eq_false hge; omega
    subst hjn
    refine T.exit ?_
    repeat (with_reducible refine Xt.thn ?_)
    refine Xt.hit ?_
    refine Xt.nrm ?_
    refine T.sreg [(6, .bool (eA && eB && (!lg || nD)))] ?_ (T.ret ?_)
    · refine W.cut 9 ((155, .bool (eA && eB)) :: [(3, .pointer (some ⟨b3, 0, none⟩)), (4, .pointer (some ⟨b4, 0, none⟩)), (5, .pointer (some ⟨b5, 0, none⟩)), (7, .slice (some ⟨g, 0, none⟩) 10 10)]) ?_ ?_
      · cases eA <;> cases eB
        all_goals
          refine W.op rfl rfl rfl (W.quiet_field rfl rfl (fi2 _)) ?_
          refine W.op rfl rfl rfl (W.quiet_load rfl rfl (by first | exact LI0 | exact LI1 | exact LI2 | exact LI3 | exact LI4 | exact LI5 | exact LI6 | exact LI7 | exact LPA | exact LX)) ?_
          refine W.op rfl rfl rfl (W.quiet_bin rfl rfl rfl (by first | exact Bk9 _ _ | exact B10 _ _ | exact BeA _ _ | exact BeB _ _)) ?_
          refine W.op rfl rfl rfl (W.quiet_move rfl rfl) ?_
          first
          | refine W.skip rfl rfl rfl ?_
          | refine W.op rfl rfl rfl (W.quiet_field rfl rfl (fi3 _)) ?_
          first
          | refine W.skip rfl rfl rfl ?_
          | refine W.op rfl rfl rfl (W.quiet_load rfl rfl (by first | exact LI0 | exact LI1 | exact LI2 | exact LI3 | exact LI4 | exact LI5 | exact LI6 | exact LI7 | exact LPA | exact LX)) ?_
          first
          | refine W.skip rfl rfl rfl ?_
          | refine W.op rfl rfl rfl (W.quiet_bin rfl rfl rfl (by first | exact Bk9 _ _ | exact B10 _ _ | exact BeA _ _ | exact BeB _ _)) ?_
          refine W.op rfl rfl rfl (W.quiet_pick rfl rfl rfl) ?_
          refine W.op rfl rfl rfl (W.quiet_move rfl rfl) ?_
          exact W.nil (fun a h => by (repeat (refine Kn.cons h rfl ?_)); exact h.base)
      generalize (eA && eB) = p at *
      cases p <;> cases lg <;> cases nD
      all_goals
        first
        | refine W.skip rfl rfl rfl ?_
        | refine W.op rfl rfl rfl (W.quiet_field rfl rfl (fi10 _)) ?_
        first
        | refine W.skip rfl rfl rfl ?_
        | refine W.op rfl rfl rfl (W.quiet_load rfl rfl (by first | exact LF0 | exact LF1 | exact LF2 | exact LF3 | exact LF4 | exact LF5 | exact LF6 | exact LF7 | exact LF8 | exact LF9 | exact LI10 | exact LPV)) ?_
        first
        | refine W.skip rfl rfl rfl ?_
        | refine W.op rfl rfl rfl (W.quiet_not rfl rfl) ?_
        first
        | refine W.skip rfl rfl rfl ?_
        | refine W.op rfl rfl rfl (W.quiet_move rfl rfl) ?_
        first
        | refine W.skip rfl rfl rfl ?_
        | refine W.op rfl rfl rfl (W.quiet_field rfl rfl (fi1 _)) ?_
        first
        | refine W.skip rfl rfl rfl ?_
        | refine W.op rfl rfl rfl (W.quiet_load rfl rfl (by first | exact LI0 | exact LI1 | exact LI2 | exact LI3 | exact LI4 | exact LI5 | exact LI6 | exact LI7 | exact LPA | exact LX)) ?_
        first
        | refine W.skip rfl rfl rfl ?_
        | refine W.op rfl rfl rfl (W.quiet_bin rfl rfl rfl (by first | exact Bfn _ _ | exact Bob _ _ | exact Bof _ _ | exact Bsz _ _ | exact Bu _ _ | exact BnD _ _ | exact Bne _ _)) ?_
        first
        | refine W.skip rfl rfl rfl ?_
        | refine W.op rfl rfl rfl (W.quiet_pick rfl rfl rfl) ?_
        refine W.op rfl rfl rfl (W.quiet_pick rfl rfl rfl) ?_
        refine W.op rfl rfl rfl (W.quiet_assign rfl rfl) ?_
        exact W.nil (fun a h => by (repeat (refine Kn.cons h rfl ?_)); exact h.base)
    · repeat (with_reducible first | refine Rt.thn ?_ | refine Rt.blk ?_)
      refine body_ret rfl rfl ?_
      refine fun W hW => ⟨⟨_, rfl, ⟨fun z => ⟨‹_›, h7f, fun i hi => hJ i (by omega), z⟩, fun z => z.2.2.2⟩⟩, hWW.trans hW⟩
  have hlt' : j < na := by have := of_decide_eq_true hlt; omega
  refine T.skip ?_
  refine T.seq ?_
  refine T.block ?_
  obtain ⟨ag, ao, rfl, ca⟩ := hat j (by omega)
  have IXI := fun W => ixi W ag ao na ac j hlt'
  have LX : ∀ W, Fr (fun _ => False) w4 W → (Instr.loadAt 3 (.pointer (some ⟨ag, ao + j, none⟩))).run Tryd.prog W = .ok (.int .i64 (args.getD j 0)) W := fun W hW => ld_int _ _ _ (hW.cell (HWF.cell ca id) id)
  obtain ⟨bX, hX⟩ := bool_ex (if true = true then RgP R (args.getD j 0) else args.getD j 0 = -1)
  have KXq : ∀ W, Fr (fun _ => False) w4 W → Calls Tryd.prog 53 #[.agg #[nm, vd, pr, .int .i64 R, .slice oa nO oc, bl], .int .i64 (args.getD j 0), .bool true] W fun e w' => e = .returned (.bool bX) ∧ Fr (fun _ => False) w4 w' := fun W hW => callQ hW (rreg_dec nm vd pr (.slice oa nO oc) bl R _ hR true bX hX W)
  refine T.sregD (by kernel_rfl) (by kernel_rfl) (fun W hW => hW.drewN 1) ((146, .bool (!bX)) :: (8, .int .i64 (j : Int)) :: [(3, .pointer (some ⟨b3, 0, none⟩)), (4, .pointer (some ⟨b4, 0, none⟩)), (5, .pointer (some ⟨b5, 0, none⟩)), (7, .slice (some ⟨g, 0, none⟩) 10 10)]) ?_ ?_
  ·
    refine W.op rfl rfl rfl (W.quiet_load rfl rfl (by first | exact LP)) ?_
    refine W.op rfl rfl rfl (W.quiet_field rfl rfl (fi9 _)) ?_
    refine W.op rfl rfl rfl (W.quiet_load rfl rfl (by first | exact LI9)) ?_
    refine W.op rfl rfl rfl (W.quiet_move rfl rfl) ?_
    refine W.op rfl rfl rfl (W.quiet_index rfl rfl rfl IXI) ?_
    refine W.op rfl rfl rfl (W.quiet_load rfl rfl (by first | exact LI0 | exact LI1 | exact LI2 | exact LI3 | exact LI4 | exact LI5 | exact LI6 | exact LI7 | exact LPA | exact LX)) ?_
    first
    | refine W.op rfl rfl rfl (W.quiet_call (hr := KDq) rfl rfl (fun W => cf_reg W _)) ?_
    | refine W.op rfl rfl rfl (W.quiet_call (hr := KXq) rfl rfl (fun W => cf_reg W _)) ?_
    refine W.op rfl rfl rfl (W.quiet_not rfl rfl) ?_
    exact W.nil (fun a h => by (repeat (refine Kn.cons h rfl ?_)); exact h.base)
  refine T.cond rfl (fun hb => ?_) (fun hb => ?_)
  ·
    refine T.sreg [(6, .bool false)] ?_ (T.ret ?_)
    · refine W.op rfl rfl rfl (W.quiet_assign rfl rfl) ?_
      exact W.nil (fun a h => by (repeat (refine Kn.cons h rfl ?_)); exact h.base)
    · repeat (with_reducible first | refine Rt.thn ?_ | refine Rt.blk ?_)
      refine body_ret rfl rfl ?_
      exact fun W hW => ⟨⟨_, rfl, iff_of_false Bool.false_ne_true (fun z => by have q := hX.2 (z.2.2.1 j (by omega)); rw [q] at hb; cases hb)⟩, hWW.trans hW⟩
  refine T.skipx ?_
  repeat (with_reducible refine Xt.nblk ?_)
  refine Xt.nrm ?_
  have BAD := fun x y W => bn_add W x y j (by omega)
  refine T.reg ?_
  refine W.op rfl rfl rfl (W.quiet_move rfl rfl) ?_
  refine W.op rfl rfl rfl (W.quiet_bin rfl rfl rfl (BAD _ _)) ?_
  refine W.op rfl rfl rfl (W.quiet_assign rfl rfl) ?_
  refine W.nil (fun a h w hw => ⟨j + 1, by omega, by omega, fun i hi => ?_, ?_, hw⟩)
  · by_cases hij : i < j
    · exact hJ i hij
    · obtain rfl : i = j := by omega
      have : bX = true := by cases bX <;> simp_all
      exact hX.1 this
  · (repeat (refine Kn.cons h rfl ?_)); exact h.base
end Go.Proofs.YtdhagimcffmdfaaDoor
