/-
  Modules (layer 13): the document's own test of an instruction, any operation but a call.
-/
import Derived.Test.YtdhagimcffmdfaaDoorQFr
import Derived.Test.YtdhagimcffmdfaaDoorQRjA
import Derived.Test.YtdhagimcffmdfaaDoorQRjL
import Derived.Test.YtdhagimcffmdfaaDoorQRfD
namespace Go.Proofs.YtdhagimcffmdfaaDoor
open Go.RowKit
set_option linter.unusedVariables false
set_option linter.unusedSimpArgs false
set_option maxRecDepth 100000 in
set_option maxHeartbeats 16000000 in
theorem rins_gen (ga pa oa : Option Addr) (nG nP nO gc pc oc : Nat) (da mn nm vd pr bl : Value) (R k D A B fn ob of sz u : Int) (aa : Option Addr) (na ac : Nat) (lg : Bool)
    (f0 f1 f2 f3 f4 f5 f6 f7 f8 f9 : Bool) (w : World)
    (KF : ∀ W, Calls Tryd.prog 34 #[.int .i64 k] W fun e w' => (∃ g, e = .returned (.slice (some ⟨g, 0, none⟩) 10 10) ∧ RwF w' g [.bool f0, .bool f1, .bool f2, .bool f3, .bool f4, .bool f5, .bool f6, .bool f7, .bool f8, .bool f9]) ∧ Fr (fun _ => False) W w')
    (bD bA bB : Bool)
    (KD : ∀ W, Calls Tryd.prog 53 #[.agg #[nm, vd, pr, .int .i64 R, .slice oa nO oc, bl], .int .i64 D, .bool f0] W fun e w' => e = .returned (.bool bD) ∧ Fr (fun _ => False) W w')
    (KA : ∀ W, Calls Tryd.prog 53 #[.agg #[nm, vd, pr, .int .i64 R, .slice oa nO oc, bl], .int .i64 A, .bool f1] W fun e w' => e = .returned (.bool bA) ∧ Fr (fun _ => False) W w')
    (KB : ∀ W, Calls Tryd.prog 53 #[.agg #[nm, vd, pr, .int .i64 R, .slice oa nO oc, bl], .int .i64 B, .bool f2] W fun e w' => e = .returned (.bool bB) ∧ Fr (fun _ => False) W w')
    (nfn : Bool) (hnfn : (fn != 0) = nfn) (nob : Bool) (hnob : (ob != 0) = nob) (nof : Bool) (hnof : (of != 0) = nof) (nsz : Bool) (hnsz : (sz != 0) = nsz) (nu : Bool) (hnu : (u != 0) = nu) (nna : Bool) (hnna : (decide ((0 : Int) < (na : Int))) = nna) (k3 : Bool) (hk3 : (k == 3) = k3) (k4 : Bool) (hk4 : (k == 4) = k4) (k7 : Bool) (hk7 : (k == 7) = k7) (k8 : Bool) (hk8 : (k == 8) = k8) (l1 : Bool) (hl1 : (decide (fn < 1)) = l1) (g16 : Bool) (hg16 : (decide (16 < fn)) = g16) (l17 : Bool) (hl17 : (decide (fn < 17)) = l17) (g19 : Bool) (hg19 : (decide (19 < fn)) = g19) (n1 : Bool) (hn1 : (sz != 1) = n1) (n4 : Bool) (hn4 : (sz != 4) = n4) (lo : Bool) (hlo : (decide (of < -32768)) = lo) (hi : Bool) (hhi : (decide (32768 < of)) = hi) (ge : Bool) (hge : (decide (0 ≤ ob)) = ge) (lO : Bool) (hlO : (decide (ob < (nO : Int))) = lO) (lG : Bool) (hlG : (decide (ob < (nG : Int))) = lG) (hk9 : (k == 9) = false) (c4 c15 c17 c19 : Bool) (h4 : c4 = ((!f3 && nfn) || (!f4 && nob) || (!f5 && nof) || (!f6 && nsz) || (!f7 && nu) || (!f8 && nna) || (!f9 && lg))) (h15 : c15 = (!bD || !bA || !bB)) (h17 : c17 = (k3 && (l1 || g16) || k4 && (l17 || g19))) (h19 : c19 = (f6 && n1 && n4 || lo || hi)) :
    Calls Tryd.prog 32 #[.agg #[.slice ga nG gc, da, .slice pa nP pc, mn], .agg #[nm, vd, pr, .int .i64 R, .slice oa nO oc, bl], .agg #[.int .i64 k, .int .i64 D, .int .i64 A, .int .i64 B, .int .i64 fn, .int .i64 ob, .int .i64 of, .int .i64 sz, .int .u32 u, .slice aa na ac, .bool lg]] w fun e w' => e = .returned (.bool (!c4 && !c15 && !c17 && !c19 && (bif k7 then ge && lO else bif k8 then ge && lG else true))) ∧ Fr (fun _ => False) w w' := by
  have Bk9 : ∀ (x y : Operand) (W : World), (do eqGuard .eql 3 x y (.int .i64 k) (.int .i64 9); binOp .eql 3 (.int .i64 k) (.int .i64 9) : Sem Value).run Tryd.prog W = .ok (.bool false) W := fun x y W => by rw [← hk9]; exact bn_eq k 9 x y W
  have B10 : ∀ (x y : Operand) (W : World), (do eqGuard .eql 3 x y (.int .i64 (10 : Nat)) (.int .i64 0); binOp .eql 3 (.int .i64 (10 : Nat)) (.int .i64 0) : Sem Value).run Tryd.prog W = .ok (.bool false) W := fun x y W => bn_eq 10 0 x y W
  have Bfn : ∀ (x y : Operand) (W : World), (do eqGuard .neq 3 x y (.int .i64 fn) (.int .i64 0); binOp .neq 3 (.int .i64 fn) (.int .i64 0) : Sem Value).run Tryd.prog W = .ok (.bool nfn) W := fun x y W => by rw [← hnfn]; exact bn_ne fn 0 x y W
  have Bob : ∀ (x y : Operand) (W : World), (do eqGuard .neq 3 x y (.int .i64 ob) (.int .i64 0); binOp .neq 3 (.int .i64 ob) (.int .i64 0) : Sem Value).run Tryd.prog W = .ok (.bool nob) W := fun x y W => by rw [← hnob]; exact bn_ne ob 0 x y W
  have Bof : ∀ (x y : Operand) (W : World), (do eqGuard .neq 3 x y (.int .i64 of) (.int .i64 0); binOp .neq 3 (.int .i64 of) (.int .i64 0) : Sem Value).run Tryd.prog W = .ok (.bool nof) W := fun x y W => by rw [← hnof]; exact bn_ne of 0 x y W
  have Bsz : ∀ (x y : Operand) (W : World), (do eqGuard .neq 3 x y (.int .i64 sz) (.int .i64 0); binOp .neq 3 (.int .i64 sz) (.int .i64 0) : Sem Value).run Tryd.prog W = .ok (.bool nsz) W := fun x y W => by rw [← hnsz]; exact bn_ne sz 0 x y W
  have Bu : ∀ (x y : Operand) (W : World), (do eqGuard .neq 35 x y (.int .u32 u) (.int .u32 0); binOp .neq 35 (.int .u32 u) (.int .u32 0) : Sem Value).run Tryd.prog W = .ok (.bool nu) W := fun x y W => by rw [← hnu]; exact bn_neu u 0 x y W
  have Bna : ∀ (x y : Operand) (W : World), (do eqGuard .gtr 3 x y (.int .i64 (na : Int)) (.int .i64 0); binOp .gtr 3 (.int .i64 (na : Int)) (.int .i64 0) : Sem Value).run Tryd.prog W = .ok (.bool nna) W := fun x y W => by rw [← hnna]; exact bn_gt (na : Int) 0 x y W
  have Bk3 : ∀ (x y : Operand) (W : World), (do eqGuard .eql 3 x y (.int .i64 k) (.int .i64 3); binOp .eql 3 (.int .i64 k) (.int .i64 3) : Sem Value).run Tryd.prog W = .ok (.bool k3) W := fun x y W => by rw [← hk3]; exact bn_eq k 3 x y W
  have Bk4 : ∀ (x y : Operand) (W : World), (do eqGuard .eql 3 x y (.int .i64 k) (.int .i64 4); binOp .eql 3 (.int .i64 k) (.int .i64 4) : Sem Value).run Tryd.prog W = .ok (.bool k4) W := fun x y W => by rw [← hk4]; exact bn_eq k 4 x y W
  have Bk7 : ∀ (x y : Operand) (W : World), (do eqGuard .eql 3 x y (.int .i64 k) (.int .i64 7); binOp .eql 3 (.int .i64 k) (.int .i64 7) : Sem Value).run Tryd.prog W = .ok (.bool k7) W := fun x y W => by rw [← hk7]; exact bn_eq k 7 x y W
  have Bk8 : ∀ (x y : Operand) (W : World), (do eqGuard .eql 3 x y (.int .i64 k) (.int .i64 8); binOp .eql 3 (.int .i64 k) (.int .i64 8) : Sem Value).run Tryd.prog W = .ok (.bool k8) W := fun x y W => by rw [← hk8]; exact bn_eq k 8 x y W
  have Bl1 : ∀ (x y : Operand) (W : World), (do eqGuard .lss 3 x y (.int .i64 fn) (.int .i64 1); binOp .lss 3 (.int .i64 fn) (.int .i64 1) : Sem Value).run Tryd.prog W = .ok (.bool l1) W := fun x y W => by rw [← hl1]; exact bn_lt fn 1 x y W
  have Bg16 : ∀ (x y : Operand) (W : World), (do eqGuard .gtr 3 x y (.int .i64 fn) (.int .i64 16); binOp .gtr 3 (.int .i64 fn) (.int .i64 16) : Sem Value).run Tryd.prog W = .ok (.bool g16) W := fun x y W => by rw [← hg16]; exact bn_gt fn 16 x y W
  have Bl17 : ∀ (x y : Operand) (W : World), (do eqGuard .lss 3 x y (.int .i64 fn) (.int .i64 17); binOp .lss 3 (.int .i64 fn) (.int .i64 17) : Sem Value).run Tryd.prog W = .ok (.bool l17) W := fun x y W => by rw [← hl17]; exact bn_lt fn 17 x y W
  have Bg19 : ∀ (x y : Operand) (W : World), (do eqGuard .gtr 3 x y (.int .i64 fn) (.int .i64 19); binOp .gtr 3 (.int .i64 fn) (.int .i64 19) : Sem Value).run Tryd.prog W = .ok (.bool g19) W := fun x y W => by rw [← hg19]; exact bn_gt fn 19 x y W
  have Bn1 : ∀ (x y : Operand) (W : World), (do eqGuard .neq 3 x y (.int .i64 sz) (.int .i64 1); binOp .neq 3 (.int .i64 sz) (.int .i64 1) : Sem Value).run Tryd.prog W = .ok (.bool n1) W := fun x y W => by rw [← hn1]; exact bn_ne sz 1 x y W
  have Bn4 : ∀ (x y : Operand) (W : World), (do eqGuard .neq 3 x y (.int .i64 sz) (.int .i64 4); binOp .neq 3 (.int .i64 sz) (.int .i64 4) : Sem Value).run Tryd.prog W = .ok (.bool n4) W := fun x y W => by rw [← hn4]; exact bn_ne sz 4 x y W
  have Blo : ∀ (x y : Operand) (W : World), (do eqGuard .lss 3 x y (.int .i64 of) (.int .i64 (-32768)); binOp .lss 3 (.int .i64 of) (.int .i64 (-32768)) : Sem Value).run Tryd.prog W = .ok (.bool lo) W := fun x y W => by rw [← hlo]; exact bn_lt of (-32768) x y W
  have Bhi : ∀ (x y : Operand) (W : World), (do eqGuard .gtr 3 x y (.int .i64 of) (.int .i64 32768); binOp .gtr 3 (.int .i64 of) (.int .i64 32768) : Sem Value).run Tryd.prog W = .ok (.bool hi) W := fun x y W => by rw [← hhi]; exact bn_gt of 32768 x y W
  have Bge : ∀ (x y : Operand) (W : World), (do eqGuard .geq 3 x y (.int .i64 ob) (.int .i64 0); binOp .geq 3 (.int .i64 ob) (.int .i64 0) : Sem Value).run Tryd.prog W = .ok (.bool ge) W := fun x y W => by rw [← hge]; exact bn_ge ob 0 x y W
  have BlO : ∀ (x y : Operand) (W : World), (do eqGuard .lss 3 x y (.int .i64 ob) (.int .i64 (nO : Int)); binOp .lss 3 (.int .i64 ob) (.int .i64 (nO : Int)) : Sem Value).run Tryd.prog W = .ok (.bool lO) W := fun x y W => by rw [← hlO]; exact bn_lt ob (nO : Int) x y W
  have BlG : ∀ (x y : Operand) (W : World), (do eqGuard .lss 3 x y (.int .i64 ob) (.int .i64 (nG : Int)); binOp .lss 3 (.int .i64 ob) (.int .i64 (nG : Int)) : Sem Value).run Tryd.prog W = .ok (.bool lG) W := fun x y W => by rw [← hlG]; exact bn_lt ob (nG : Int) x y W
  clear hnfn hnob hnof hnsz hnu hnna hk3 hk4 hk7 hk8 hl1 hg16 hl17 hg19 hn1 hn4 hlo hhi hge hlO hlG hk9
  refine calls_tw Tryd.func32 rfl rfl (Nat.le_of_ble_eq_true rfl) ?_
  refine TW.sreg ?_
  refine WL.box rfl rfl rfl rfl rfl (bx_mod _ _ rfl) ?_
  refine WL.box rfl rfl rfl rfl rfl (bx_prc _ _ rfl) ?_
  refine WL.box rfl rfl rfl rfl rfl (bx_ins _ _ rfl) ?_
  refine WL.op rfl rfl rfl (W.quiet_assign rfl rfl) ?_
  refine WL.nil ?_
  have F0 := fr_al (fr_al (fr_al (Fr.refl (fun _ => False) w) (.cells #[.slice ga nG gc, da, .slice pa nP pc, mn] 26)) (.cells #[nm, vd, pr, .int .i64 R, .slice oa nO oc, bl] 50)) (.cells #[.int .i64 k, .int .i64 D, .int .i64 A, .int .i64 B, .int .i64 fn, .int .i64 ob, .int .i64 of, .int .i64 sz, .int .u32 u, .slice aa na ac, .bool lg] 38)
  have CM : ∀ (j : Nat) (y : Value), (#[.slice ga nG gc, da, .slice pa nP pc, mn] : Array Value)[j]? = some y → (((w.alloc (.cells #[.slice ga nG gc, da, .slice pa nP pc, mn] 26)).alloc (.cells #[nm, vd, pr, .int .i64 R, .slice oa nO oc, bl] 50)).alloc (.cells #[.int .i64 k, .int .i64 D, .int .i64 A, .int .i64 B, .int .i64 fn, .int .i64 ob, .int .i64 of, .int .i64 sz, .int .u32 u, .slice aa na ac, .bool lg] 38)).cell? ⟨w.heap.size, j, none⟩ = some y := fun j y h => (fr_al (fr_al (Fr.refl (fun _ => False) _) _) _).cell (fcell w _ _ j y h) id
  have CP : ∀ (j : Nat) (y : Value), (#[nm, vd, pr, .int .i64 R, .slice oa nO oc, bl] : Array Value)[j]? = some y → (((w.alloc (.cells #[.slice ga nG gc, da, .slice pa nP pc, mn] 26)).alloc (.cells #[nm, vd, pr, .int .i64 R, .slice oa nO oc, bl] 50)).alloc (.cells #[.int .i64 k, .int .i64 D, .int .i64 A, .int .i64 B, .int .i64 fn, .int .i64 ob, .int .i64 of, .int .i64 sz, .int .u32 u, .slice aa na ac, .bool lg] 38)).cell? ⟨(w.alloc (.cells #[.slice ga nG gc, da, .slice pa nP pc, mn] 26)).heap.size, j, none⟩ = some y := fun j y h => (fr_al (Fr.refl (fun _ => False) _) _).cell (fcell (w.alloc (.cells #[.slice ga nG gc, da, .slice pa nP pc, mn] 26)) _ _ j y h) id
  have CI : ∀ (j : Nat) (y : Value), (#[.int .i64 k, .int .i64 D, .int .i64 A, .int .i64 B, .int .i64 fn, .int .i64 ob, .int .i64 of, .int .i64 sz, .int .u32 u, .slice aa na ac, .bool lg] : Array Value)[j]? = some y → (((w.alloc (.cells #[.slice ga nG gc, da, .slice pa nP pc, mn] 26)).alloc (.cells #[nm, vd, pr, .int .i64 R, .slice oa nO oc, bl] 50)).alloc (.cells #[.int .i64 k, .int .i64 D, .int .i64 A, .int .i64 B, .int .i64 fn, .int .i64 ob, .int .i64 of, .int .i64 sz, .int .u32 u, .slice aa na ac, .bool lg] 38)).cell? ⟨((w.alloc (.cells #[.slice ga nG gc, da, .slice pa nP pc, mn] 26)).alloc (.cells #[nm, vd, pr, .int .i64 R, .slice oa nO oc, bl] 50)).heap.size, j, none⟩ = some y := fun j y h => fcell ((w.alloc (.cells #[.slice ga nG gc, da, .slice pa nP pc, mn] 26)).alloc (.cells #[nm, vd, pr, .int .i64 R, .slice oa nO oc, bl] 50)) _ _ j y h
  generalize (((w.alloc (.cells #[.slice ga nG gc, da, .slice pa nP pc, mn] 26)).alloc (.cells #[nm, vd, pr, .int .i64 R, .slice oa nO oc, bl] 50)).alloc (.cells #[.int .i64 k, .int .i64 D, .int .i64 A, .int .i64 B, .int .i64 fn, .int .i64 ob, .int .i64 of, .int .i64 sz, .int .u32 u, .slice aa na ac, .bool lg] 38)) = V at *
  generalize ((w.alloc (.cells #[.slice ga nG gc, da, .slice pa nP pc, mn] 26)).alloc (.cells #[nm, vd, pr, .int .i64 R, .slice oa nO oc, bl] 50)).heap.size = b5 at *
  generalize (w.alloc (.cells #[.slice ga nG gc, da, .slice pa nP pc, mn] 26)).heap.size = b4 at *
  generalize w.heap.size = b3 at *
  refine TW.sreg ?_
  refine WL.op rfl rfl rfl (W.quiet_field rfl rfl (fi0 _)) ?_
  refine WL.op rfl rfl rfl (W.quiet_load rfl rfl (fun W hW => by rw [hW]; exact ld_int _ _ _ (CI 0 _ rfl))) ?_
  refine WL.call (hr := KF V) rfl rfl rfl rfl rfl (fun W => cf_fields W _) ?_
  rintro e w4 ⟨⟨g, rfl, hr⟩, hf⟩
  refine ⟨_, rfl, ?_⟩
  refine WL.op rfl rfl rfl (W.quiet_assign rfl rfl) ?_
  refine WL.nil ?_
  have hWW := F0.trans hf
  refine TW.to (fun W => Fr (fun _ => False) w4 W) (Fr.refl _ _) ?_
  refine T.sub (s' := [(3, .pointer (some ⟨b3, 0, none⟩)), (4, .pointer (some ⟨b4, 0, none⟩)), (5, .pointer (some ⟨b5, 0, none⟩)), (7, .slice (some ⟨g, 0, none⟩) 10 10)]) ?_ (fun a h => by (repeat (refine Kn.cons h rfl ?_)); exact h.base)
  have LI0 : ∀ W, Fr (fun _ => False) w4 W → (Instr.loadAt 3 (.pointer (some ⟨b5, 0, none⟩))).run Tryd.prog W = .ok (.int .i64 k) W := fun W hW => ld_int _ _ _ (hW.cell (hf.cell (CI 0 _ rfl) id) id)
  have LI1 : ∀ W, Fr (fun _ => False) w4 W → (Instr.loadAt 3 (.pointer (some ⟨b5, 1, none⟩))).run Tryd.prog W = .ok (.int .i64 D) W := fun W hW => ld_int _ _ _ (hW.cell (hf.cell (CI 1 _ rfl) id) id)
  have LI2 : ∀ W, Fr (fun _ => False) w4 W → (Instr.loadAt 3 (.pointer (some ⟨b5, 2, none⟩))).run Tryd.prog W = .ok (.int .i64 A) W := fun W hW => ld_int _ _ _ (hW.cell (hf.cell (CI 2 _ rfl) id) id)
  have LI3 : ∀ W, Fr (fun _ => False) w4 W → (Instr.loadAt 3 (.pointer (some ⟨b5, 3, none⟩))).run Tryd.prog W = .ok (.int .i64 B) W := fun W hW => ld_int _ _ _ (hW.cell (hf.cell (CI 3 _ rfl) id) id)
  have LI4 : ∀ W, Fr (fun _ => False) w4 W → (Instr.loadAt 3 (.pointer (some ⟨b5, 4, none⟩))).run Tryd.prog W = .ok (.int .i64 fn) W := fun W hW => ld_int _ _ _ (hW.cell (hf.cell (CI 4 _ rfl) id) id)
  have LI5 : ∀ W, Fr (fun _ => False) w4 W → (Instr.loadAt 3 (.pointer (some ⟨b5, 5, none⟩))).run Tryd.prog W = .ok (.int .i64 ob) W := fun W hW => ld_int _ _ _ (hW.cell (hf.cell (CI 5 _ rfl) id) id)
  have LI6 : ∀ W, Fr (fun _ => False) w4 W → (Instr.loadAt 3 (.pointer (some ⟨b5, 6, none⟩))).run Tryd.prog W = .ok (.int .i64 of) W := fun W hW => ld_int _ _ _ (hW.cell (hf.cell (CI 6 _ rfl) id) id)
  have LI7 : ∀ W, Fr (fun _ => False) w4 W → (Instr.loadAt 3 (.pointer (some ⟨b5, 7, none⟩))).run Tryd.prog W = .ok (.int .i64 sz) W := fun W hW => ld_int _ _ _ (hW.cell (hf.cell (CI 7 _ rfl) id) id)
  have LI8 : ∀ W, Fr (fun _ => False) w4 W → (Instr.loadAt 35 (.pointer (some ⟨b5, 8, none⟩))).run Tryd.prog W = .ok (.int .u32 u) W := fun W hW => ld_u32 _ _ _ (hW.cell (hf.cell (CI 8 _ rfl) id) id)
  have LI9 : ∀ W, Fr (fun _ => False) w4 W → (Instr.loadAt 36 (.pointer (some ⟨b5, 9, none⟩))).run Tryd.prog W = .ok (.slice aa na ac) W := fun W hW => ld_ints _ _ _ _ _ (hW.cell (hf.cell (CI 9 _ rfl) id) id)
  have LI10 : ∀ W, Fr (fun _ => False) w4 W → (Instr.loadAt 4 (.pointer (some ⟨b5, 10, none⟩))).run Tryd.prog W = .ok (.bool lg) W := fun W hW => ld_bool _ _ _ (hW.cell (hf.cell (CI 10 _ rfl) id) id)
  have LF0 : ∀ W, Fr (fun _ => False) w4 W → (Instr.loadAt 4 (.pointer (some ⟨g, 0, none⟩))).run Tryd.prog W = .ok (.bool f0) W := fun W hW => ld_bool _ _ _ (hW.cell (hr 0 _ rfl) id)
  have LF1 : ∀ W, Fr (fun _ => False) w4 W → (Instr.loadAt 4 (.pointer (some ⟨g, 1, none⟩))).run Tryd.prog W = .ok (.bool f1) W := fun W hW => ld_bool _ _ _ (hW.cell (hr 1 _ rfl) id)
  have LF2 : ∀ W, Fr (fun _ => False) w4 W → (Instr.loadAt 4 (.pointer (some ⟨g, 2, none⟩))).run Tryd.prog W = .ok (.bool f2) W := fun W hW => ld_bool _ _ _ (hW.cell (hr 2 _ rfl) id)
  have LF3 : ∀ W, Fr (fun _ => False) w4 W → (Instr.loadAt 4 (.pointer (some ⟨g, 3, none⟩))).run Tryd.prog W = .ok (.bool f3) W := fun W hW => ld_bool _ _ _ (hW.cell (hr 3 _ rfl) id)
  have LF4 : ∀ W, Fr (fun _ => False) w4 W → (Instr.loadAt 4 (.pointer (some ⟨g, 4, none⟩))).run Tryd.prog W = .ok (.bool f4) W := fun W hW => ld_bool _ _ _ (hW.cell (hr 4 _ rfl) id)
  have LF5 : ∀ W, Fr (fun _ => False) w4 W → (Instr.loadAt 4 (.pointer (some ⟨g, 5, none⟩))).run Tryd.prog W = .ok (.bool f5) W := fun W hW => ld_bool _ _ _ (hW.cell (hr 5 _ rfl) id)
  have LF6 : ∀ W, Fr (fun _ => False) w4 W → (Instr.loadAt 4 (.pointer (some ⟨g, 6, none⟩))).run Tryd.prog W = .ok (.bool f6) W := fun W hW => ld_bool _ _ _ (hW.cell (hr 6 _ rfl) id)
  have LF7 : ∀ W, Fr (fun _ => False) w4 W → (Instr.loadAt 4 (.pointer (some ⟨g, 7, none⟩))).run Tryd.prog W = .ok (.bool f7) W := fun W hW => ld_bool _ _ _ (hW.cell (hr 7 _ rfl) id)
  have LF8 : ∀ W, Fr (fun _ => False) w4 W → (Instr.loadAt 4 (.pointer (some ⟨g, 8, none⟩))).run Tryd.prog W = .ok (.bool f8) W := fun W hW => ld_bool _ _ _ (hW.cell (hr 8 _ rfl) id)
  have LF9 : ∀ W, Fr (fun _ => False) w4 W → (Instr.loadAt 4 (.pointer (some ⟨g, 9, none⟩))).run Tryd.prog W = .ok (.bool f9) W := fun W hW => ld_bool _ _ _ (hW.cell (hr 9 _ rfl) id)
  have LP : ∀ W, Fr (fun _ => False) w4 W → (Instr.loadAt 50 (.pointer (some ⟨b4, 0, none⟩))).run Tryd.prog W = .ok (.agg #[nm, vd, pr, .int .i64 R, .slice oa nO oc, bl]) W := fun W hW => ld_proc _ _ _ _ _ _ _ _ (hW.cell (hf.cell (CP 0 _ rfl) id) id) (hW.cell (hf.cell (CP 1 _ rfl) id) id) (hW.cell (hf.cell (CP 2 _ rfl) id) id) (hW.cell (hf.cell (CP 3 _ rfl) id) id) (hW.cell (hf.cell (CP 4 _ rfl) id) id) (hW.cell (hf.cell (CP 5 _ rfl) id) id)
  have LPO : ∀ W, Fr (fun _ => False) w4 W → (Instr.loadAt 22 (.pointer (some ⟨b4, 4, none⟩))).run Tryd.prog W = .ok (.slice oa nO oc) W := fun W hW => ld_slots _ _ _ _ _ (hW.cell (hf.cell (CP 4 _ rfl) id) id)
  have LMG : ∀ W, Fr (fun _ => False) w4 W → (Instr.loadAt 22 (.pointer (some ⟨b3, 0, none⟩))).run Tryd.prog W = .ok (.slice ga nG gc) W := fun W hW => ld_slots _ _ _ _ _ (hW.cell (hf.cell (CM 0 _ rfl) id) id)
  have KDq : ∀ W, Fr (fun _ => False) w4 W → Calls Tryd.prog 53 #[.agg #[nm, vd, pr, .int .i64 R, .slice oa nO oc, bl], .int .i64 D, .bool f0] W fun e w' => e = .returned (.bool bD) ∧ Fr (fun _ => False) w4 w' := fun W hW => callQ hW (KD W)
  have KAq : ∀ W, Fr (fun _ => False) w4 W → Calls Tryd.prog 53 #[.agg #[nm, vd, pr, .int .i64 R, .slice oa nO oc, bl], .int .i64 A, .bool f1] W fun e w' => e = .returned (.bool bA) ∧ Fr (fun _ => False) w4 w' := fun W hW => callQ hW (KA W)
  have KBq : ∀ W, Fr (fun _ => False) w4 W → Calls Tryd.prog 53 #[.agg #[nm, vd, pr, .int .i64 R, .slice oa nO oc, bl], .int .i64 B, .bool f2] W fun e w' => e = .returned (.bool bB) ∧ Fr (fun _ => False) w4 w' := fun W hW => callQ hW (KB W)
  clear hr hf CM CP CI F0 KF KD KA KB
  refine T.seq ?_
  refine T.sreg ((14, .bool false) :: [(3, .pointer (some ⟨b3, 0, none⟩)), (4, .pointer (some ⟨b4, 0, none⟩)), (5, .pointer (some ⟨b5, 0, none⟩)), (7, .slice (some ⟨g, 0, none⟩) 10 10)]) ?_ ?_
  ·
    refine W.op rfl rfl rfl (W.quiet_move rfl rfl) ?_
    refine W.op rfl rfl rfl (W.quiet_len rfl rfl (fun W => ln_f W _ _ _)) ?_
    refine W.op rfl rfl rfl (W.quiet_bin rfl rfl rfl (by first | exact Bk9 _ _ | exact Bk3 _ _ | exact Bk4 _ _ | exact Bk7 _ _ | exact Bk8 _ _ | exact B10 _ _)) ?_
    exact W.nil (fun a h => by (repeat (refine Kn.cons h rfl ?_)); exact h.base)
  refine T.cond rfl (fun e => by cases e) (fun _ => ?_)
  refine T.skip ?_
  refine T.seq ?_
  refine T.sreg ((89, .bool ((!f3 && nfn) || (!f4 && nob) || (!f5 && nof) || (!f6 && nsz) || (!f7 && nu) || (!f8 && nna) || (!f9 && lg))) :: [(3, .pointer (some ⟨b3, 0, none⟩)), (4, .pointer (some ⟨b4, 0, none⟩)), (5, .pointer (some ⟨b5, 0, none⟩)), (7, .slice (some ⟨g, 0, none⟩) 10 10)]) ?_ ?_
  ·
    refine W.cut 10 ((24, .bool ((!f3 && nfn))) :: [(3, .pointer (some ⟨b3, 0, none⟩)), (4, .pointer (some ⟨b4, 0, none⟩)), (5, .pointer (some ⟨b5, 0, none⟩)), (7, .slice (some ⟨g, 0, none⟩) 10 10)]) ?_ ?_
    · cases f3 <;> cases nfn
      all_goals
        refine W.op rfl rfl rfl (W.quiet_move rfl rfl) ?_
        refine W.op rfl rfl rfl (W.quiet_index rfl rfl rfl (ix3 _)) ?_
        refine W.op rfl rfl rfl (W.quiet_load rfl rfl (by first | exact LF0 | exact LF1 | exact LF2 | exact LF3 | exact LF4 | exact LF5 | exact LF6 | exact LF7 | exact LF8 | exact LF9 | exact LI10)) ?_
        refine W.op rfl rfl rfl (W.quiet_not rfl rfl) ?_
        refine W.op rfl rfl rfl (W.quiet_move rfl rfl) ?_
        first
        | refine W.skip rfl rfl rfl ?_
        | refine W.op rfl rfl rfl (W.quiet_field rfl rfl (fi4 _)) ?_
        first
        | refine W.skip rfl rfl rfl ?_
        | refine W.op rfl rfl rfl (W.quiet_load rfl rfl (by first | exact LI0 | exact LI1 | exact LI2 | exact LI3 | exact LI4 | exact LI5 | exact LI6 | exact LI7)) ?_
        first
        | refine W.skip rfl rfl rfl ?_
        | refine W.op rfl rfl rfl (W.quiet_bin rfl rfl rfl (by first | exact Bfn _ _ | exact Bob _ _ | exact Bof _ _ | exact Bsz _ _ | exact Bu _ _ | exact Bn1 _ _ | exact Bn4 _ _)) ?_
        refine W.op rfl rfl rfl (W.quiet_pick rfl rfl rfl) ?_
        refine W.op rfl rfl rfl (W.quiet_move rfl rfl) ?_
        exact W.nil (fun a h => by (repeat (refine Kn.cons h rfl ?_)); exact h.base)
    refine W.cut 11 ((35, .bool ((!f3 && nfn) || (!f4 && nob))) :: [(3, .pointer (some ⟨b3, 0, none⟩)), (4, .pointer (some ⟨b4, 0, none⟩)), (5, .pointer (some ⟨b5, 0, none⟩)), (7, .slice (some ⟨g, 0, none⟩) 10 10)]) ?_ ?_
    · generalize ((!f3 && nfn)) = p at *
      cases p <;> cases f4 <;> cases nob
      all_goals
        first
        | refine W.skip rfl rfl rfl ?_
        | refine W.op rfl rfl rfl (W.quiet_move rfl rfl) ?_
        first
        | refine W.skip rfl rfl rfl ?_
        | refine W.op rfl rfl rfl (W.quiet_index rfl rfl rfl (ix4 _)) ?_
        first
        | refine W.skip rfl rfl rfl ?_
        | refine W.op rfl rfl rfl (W.quiet_load rfl rfl (by first | exact LF0 | exact LF1 | exact LF2 | exact LF3 | exact LF4 | exact LF5 | exact LF6 | exact LF7 | exact LF8 | exact LF9 | exact LI10)) ?_
        first
        | refine W.skip rfl rfl rfl ?_
        | refine W.op rfl rfl rfl (W.quiet_not rfl rfl) ?_
        first
        | refine W.skip rfl rfl rfl ?_
        | refine W.op rfl rfl rfl (W.quiet_move rfl rfl) ?_
        first
        | refine W.skip rfl rfl rfl ?_
        | refine W.op rfl rfl rfl (W.quiet_field rfl rfl (fi5 _)) ?_
        first
        | refine W.skip rfl rfl rfl ?_
        | refine W.op rfl rfl rfl (W.quiet_load rfl rfl (by first | exact LI0 | exact LI1 | exact LI2 | exact LI3 | exact LI4 | exact LI5 | exact LI6 | exact LI7)) ?_
        first
        | refine W.skip rfl rfl rfl ?_
        | refine W.op rfl rfl rfl (W.quiet_bin rfl rfl rfl (by first | exact Bfn _ _ | exact Bob _ _ | exact Bof _ _ | exact Bsz _ _ | exact Bu _ _ | exact Bn1 _ _ | exact Bn4 _ _)) ?_
        first
        | refine W.skip rfl rfl rfl ?_
        | refine W.op rfl rfl rfl (W.quiet_pick rfl rfl rfl) ?_
        refine W.op rfl rfl rfl (W.quiet_pick rfl rfl rfl) ?_
        refine W.op rfl rfl rfl (W.quiet_move rfl rfl) ?_
        exact W.nil (fun a h => by (repeat (refine Kn.cons h rfl ?_)); exact h.base)
    refine W.cut 11 ((46, .bool ((!f3 && nfn) || (!f4 && nob) || (!f5 && nof))) :: [(3, .pointer (some ⟨b3, 0, none⟩)), (4, .pointer (some ⟨b4, 0, none⟩)), (5, .pointer (some ⟨b5, 0, none⟩)), (7, .slice (some ⟨g, 0, none⟩) 10 10)]) ?_ ?_
    · generalize ((!f3 && nfn) || (!f4 && nob)) = p at *
      cases p <;> cases f5 <;> cases nof
      all_goals
        first
        | refine W.skip rfl rfl rfl ?_
        | refine W.op rfl rfl rfl (W.quiet_move rfl rfl) ?_
        first
        | refine W.skip rfl rfl rfl ?_
        | refine W.op rfl rfl rfl (W.quiet_index rfl rfl rfl (ix5 _)) ?_
        first
        | refine W.skip rfl rfl rfl ?_
        | refine W.op rfl rfl rfl (W.quiet_load rfl rfl (by first | exact LF0 | exact LF1 | exact LF2 | exact LF3 | exact LF4 | exact LF5 | exact LF6 | exact LF7 | exact LF8 | exact LF9 | exact LI10)) ?_
        first
        | refine W.skip rfl rfl rfl ?_
        | refine W.op rfl rfl rfl (W.quiet_not rfl rfl) ?_
        first
        | refine W.skip rfl rfl rfl ?_
        | refine W.op rfl rfl rfl (W.quiet_move rfl rfl) ?_
        first
        | refine W.skip rfl rfl rfl ?_
        | refine W.op rfl rfl rfl (W.quiet_field rfl rfl (fi6 _)) ?_
        first
        | refine W.skip rfl rfl rfl ?_
        | refine W.op rfl rfl rfl (W.quiet_load rfl rfl (by first | exact LI0 | exact LI1 | exact LI2 | exact LI3 | exact LI4 | exact LI5 | exact LI6 | exact LI7)) ?_
        first
        | refine W.skip rfl rfl rfl ?_
        | refine W.op rfl rfl rfl (W.quiet_bin rfl rfl rfl (by first | exact Bfn _ _ | exact Bob _ _ | exact Bof _ _ | exact Bsz _ _ | exact Bu _ _ | exact Bn1 _ _ | exact Bn4 _ _)) ?_
        first
        | refine W.skip rfl rfl rfl ?_
        | refine W.op rfl rfl rfl (W.quiet_pick rfl rfl rfl) ?_
        refine W.op rfl rfl rfl (W.quiet_pick rfl rfl rfl) ?_
        refine W.op rfl rfl rfl (W.quiet_move rfl rfl) ?_
        exact W.nil (fun a h => by (repeat (refine Kn.cons h rfl ?_)); exact h.base)
    refine W.cut 11 ((57, .bool ((!f3 && nfn) || (!f4 && nob) || (!f5 && nof) || (!f6 && nsz))) :: [(3, .pointer (some ⟨b3, 0, none⟩)), (4, .pointer (some ⟨b4, 0, none⟩)), (5, .pointer (some ⟨b5, 0, none⟩)), (7, .slice (some ⟨g, 0, none⟩) 10 10)]) ?_ ?_
    · generalize ((!f3 && nfn) || (!f4 && nob) || (!f5 && nof)) = p at *
      cases p <;> cases f6 <;> cases nsz
      all_goals
        first
        | refine W.skip rfl rfl rfl ?_
        | refine W.op rfl rfl rfl (W.quiet_move rfl rfl) ?_
        first
        | refine W.skip rfl rfl rfl ?_
        | refine W.op rfl rfl rfl (W.quiet_index rfl rfl rfl (ix6 _)) ?_
        first
        | refine W.skip rfl rfl rfl ?_
        | refine W.op rfl rfl rfl (W.quiet_load rfl rfl (by first | exact LF0 | exact LF1 | exact LF2 | exact LF3 | exact LF4 | exact LF5 | exact LF6 | exact LF7 | exact LF8 | exact LF9 | exact LI10)) ?_
        first
        | refine W.skip rfl rfl rfl ?_
        | refine W.op rfl rfl rfl (W.quiet_not rfl rfl) ?_
        first
        | refine W.skip rfl rfl rfl ?_
        | refine W.op rfl rfl rfl (W.quiet_move rfl rfl) ?_
        first
        | refine W.skip rfl rfl rfl ?_
        | refine W.op rfl rfl rfl (W.quiet_field rfl rfl (fi7 _)) ?_
        first
        | refine W.skip rfl rfl rfl ?_
        | refine W.op rfl rfl rfl (W.quiet_load rfl rfl (by first | exact LI0 | exact LI1 | exact LI2 | exact LI3 | exact LI4 | exact LI5 | exact LI6 | exact LI7)) ?_
        first
        | refine W.skip rfl rfl rfl ?_
        | refine W.op rfl rfl rfl (W.quiet_bin rfl rfl rfl (by first | exact Bfn _ _ | exact Bob _ _ | exact Bof _ _ | exact Bsz _ _ | exact Bu _ _ | exact Bn1 _ _ | exact Bn4 _ _)) ?_
        first
        | refine W.skip rfl rfl rfl ?_
        | refine W.op rfl rfl rfl (W.quiet_pick rfl rfl rfl) ?_
        refine W.op rfl rfl rfl (W.quiet_pick rfl rfl rfl) ?_
        refine W.op rfl rfl rfl (W.quiet_move rfl rfl) ?_
        exact W.nil (fun a h => by (repeat (refine Kn.cons h rfl ?_)); exact h.base)
    refine W.cut 11 ((68, .bool ((!f3 && nfn) || (!f4 && nob) || (!f5 && nof) || (!f6 && nsz) || (!f7 && nu))) :: [(3, .pointer (some ⟨b3, 0, none⟩)), (4, .pointer (some ⟨b4, 0, none⟩)), (5, .pointer (some ⟨b5, 0, none⟩)), (7, .slice (some ⟨g, 0, none⟩) 10 10)]) ?_ ?_
    · generalize ((!f3 && nfn) || (!f4 && nob) || (!f5 && nof) || (!f6 && nsz)) = p at *
      cases p <;> cases f7 <;> cases nu
      all_goals
        first
        | refine W.skip rfl rfl rfl ?_
        | refine W.op rfl rfl rfl (W.quiet_move rfl rfl) ?_
        first
        | refine W.skip rfl rfl rfl ?_
        | refine W.op rfl rfl rfl (W.quiet_index rfl rfl rfl (ix7 _)) ?_
        first
        | refine W.skip rfl rfl rfl ?_
        | refine W.op rfl rfl rfl (W.quiet_load rfl rfl (by first | exact LF0 | exact LF1 | exact LF2 | exact LF3 | exact LF4 | exact LF5 | exact LF6 | exact LF7 | exact LF8 | exact LF9 | exact LI10)) ?_
        first
        | refine W.skip rfl rfl rfl ?_
        | refine W.op rfl rfl rfl (W.quiet_not rfl rfl) ?_
        first
        | refine W.skip rfl rfl rfl ?_
        | refine W.op rfl rfl rfl (W.quiet_move rfl rfl) ?_
        first
        | refine W.skip rfl rfl rfl ?_
        | refine W.op rfl rfl rfl (W.quiet_field rfl rfl (fi8 _)) ?_
        first
        | refine W.skip rfl rfl rfl ?_
        | refine W.op rfl rfl rfl (W.quiet_load rfl rfl (by first | exact LI8)) ?_
        first
        | refine W.skip rfl rfl rfl ?_
        | refine W.op rfl rfl rfl (W.quiet_bin rfl rfl rfl (by first | exact Bfn _ _ | exact Bob _ _ | exact Bof _ _ | exact Bsz _ _ | exact Bu _ _ | exact Bn1 _ _ | exact Bn4 _ _)) ?_
        first
        | refine W.skip rfl rfl rfl ?_
        | refine W.op rfl rfl rfl (W.quiet_pick rfl rfl rfl) ?_
        refine W.op rfl rfl rfl (W.quiet_pick rfl rfl rfl) ?_
        refine W.op rfl rfl rfl (W.quiet_move rfl rfl) ?_
        exact W.nil (fun a h => by (repeat (refine Kn.cons h rfl ?_)); exact h.base)
    refine W.cut 12 ((80, .bool ((!f3 && nfn) || (!f4 && nob) || (!f5 && nof) || (!f6 && nsz) || (!f7 && nu) || (!f8 && nna))) :: [(3, .pointer (some ⟨b3, 0, none⟩)), (4, .pointer (some ⟨b4, 0, none⟩)), (5, .pointer (some ⟨b5, 0, none⟩)), (7, .slice (some ⟨g, 0, none⟩) 10 10)]) ?_ ?_
    · generalize ((!f3 && nfn) || (!f4 && nob) || (!f5 && nof) || (!f6 && nsz) || (!f7 && nu)) = p at *
      cases p <;> cases f8 <;> cases nna
      all_goals
        first
        | refine W.skip rfl rfl rfl ?_
        | refine W.op rfl rfl rfl (W.quiet_move rfl rfl) ?_
        first
        | refine W.skip rfl rfl rfl ?_
        | refine W.op rfl rfl rfl (W.quiet_index rfl rfl rfl (ix8 _)) ?_
        first
        | refine W.skip rfl rfl rfl ?_
        | refine W.op rfl rfl rfl (W.quiet_load rfl rfl (by first | exact LF0 | exact LF1 | exact LF2 | exact LF3 | exact LF4 | exact LF5 | exact LF6 | exact LF7 | exact LF8 | exact LF9 | exact LI10)) ?_
        first
        | refine W.skip rfl rfl rfl ?_
        | refine W.op rfl rfl rfl (W.quiet_not rfl rfl) ?_
        first
        | refine W.skip rfl rfl rfl ?_
        | refine W.op rfl rfl rfl (W.quiet_move rfl rfl) ?_
        first
        | refine W.skip rfl rfl rfl ?_
        | refine W.op rfl rfl rfl (W.quiet_field rfl rfl (fi9 _)) ?_
        first
        | refine W.skip rfl rfl rfl ?_
        | refine W.op rfl rfl rfl (W.quiet_load rfl rfl (by first | exact LI9)) ?_
        first
        | refine W.skip rfl rfl rfl ?_
        | refine W.op rfl rfl rfl (W.quiet_len rfl rfl (fun W => ln_i W _ _ _)) ?_
        first
        | refine W.skip rfl rfl rfl ?_
        | refine W.op rfl rfl rfl (W.quiet_bin rfl rfl rfl (by first | exact Bna _ _ | exact Bg16 _ _ | exact Bg19 _ _ | exact Bhi _ _)) ?_
        first
        | refine W.skip rfl rfl rfl ?_
        | refine W.op rfl rfl rfl (W.quiet_pick rfl rfl rfl) ?_
        refine W.op rfl rfl rfl (W.quiet_pick rfl rfl rfl) ?_
        refine W.op rfl rfl rfl (W.quiet_move rfl rfl) ?_
        exact W.nil (fun a h => by (repeat (refine Kn.cons h rfl ?_)); exact h.base)
    generalize ((!f3 && nfn) || (!f4 && nob) || (!f5 && nof) || (!f6 && nsz) || (!f7 && nu) || (!f8 && nna)) = p at *
    cases p <;> cases f9 <;> cases lg
    all_goals
      first
      | refine W.skip rfl rfl rfl ?_
      | refine W.op rfl rfl rfl (W.quiet_move rfl rfl) ?_
      first
      | refine W.skip rfl rfl rfl ?_
      | refine W.op rfl rfl rfl (W.quiet_index rfl rfl rfl (ix9 _)) ?_
      first
      | refine W.skip rfl rfl rfl ?_
      | refine W.op rfl rfl rfl (W.quiet_load rfl rfl (by first | exact LF0 | exact LF1 | exact LF2 | exact LF3 | exact LF4 | exact LF5 | exact LF6 | exact LF7 | exact LF8 | exact LF9 | exact LI10)) ?_
      first
      | refine W.skip rfl rfl rfl ?_
      | refine W.op rfl rfl rfl (W.quiet_not rfl rfl) ?_
      first
      | refine W.skip rfl rfl rfl ?_
      | refine W.op rfl rfl rfl (W.quiet_move rfl rfl) ?_
      first
      | refine W.skip rfl rfl rfl ?_
      | refine W.op rfl rfl rfl (W.quiet_field rfl rfl (fi10 _)) ?_
      first
      | refine W.skip rfl rfl rfl ?_
      | refine W.op rfl rfl rfl (W.quiet_load rfl rfl (by first | exact LF0 | exact LF1 | exact LF2 | exact LF3 | exact LF4 | exact LF5 | exact LF6 | exact LF7 | exact LF8 | exact LF9 | exact LI10)) ?_
      first
      | refine W.skip rfl rfl rfl ?_
      | refine W.op rfl rfl rfl (W.quiet_pick rfl rfl rfl) ?_
      refine W.op rfl rfl rfl (W.quiet_pick rfl rfl rfl) ?_
      exact W.nil (fun a h => by (repeat (refine Kn.cons h rfl ?_)); exact h.base)
  rw [show ((!f3 && nfn) || (!f4 && nob) || (!f5 && nof) || (!f6 && nsz) || (!f7 && nu) || (!f8 && nna) || (!f9 && lg)) = c4 from by rw [h4]]
  refine T.cond rfl (fun hb => ?_) (fun _ => ?_)
  ·
    refine T.sreg [(6, .bool false)] ?_ (T.ret ?_)
    · refine W.op rfl rfl rfl (W.quiet_assign rfl rfl) ?_
      exact W.nil (fun a h => by (repeat (refine Kn.cons h rfl ?_)); exact h.base)
    · repeat (with_reducible refine Rt.thn ?_)
      refine body_ret rfl rfl ?_
      exact fun W hW => ⟨by rw [hb]; simp, hWW.trans hW⟩
  refine T.skip ?_
  refine T.seq ?_
  refine T.sreg ((92, .bool false) :: [(3, .pointer (some ⟨b3, 0, none⟩)), (4, .pointer (some ⟨b4, 0, none⟩)), (5, .pointer (some ⟨b5, 0, none⟩)), (7, .slice (some ⟨g, 0, none⟩) 10 10)]) ?_ ?_
  ·
    refine W.op rfl rfl rfl (W.quiet_field rfl rfl (fi0 _)) ?_
    refine W.op rfl rfl rfl (W.quiet_load rfl rfl (by first | exact LI0 | exact LI1 | exact LI2 | exact LI3 | exact LI4 | exact LI5 | exact LI6 | exact LI7)) ?_
    refine W.op rfl rfl rfl (W.quiet_bin rfl rfl rfl (by first | exact Bk9 _ _ | exact Bk3 _ _ | exact Bk4 _ _ | exact Bk7 _ _ | exact Bk8 _ _ | exact B10 _ _)) ?_
    exact W.nil (fun a h => by (repeat (refine Kn.cons h rfl ?_)); exact h.base)
  refine T.cond rfl (fun e => by cases e) (fun _ => ?_)
  refine T.skip ?_
  refine T.seq ?_
  refine T.sregD (by kernel_rfl) lexR (fun W hW => hW.drewN 1) ((192, .bool (!bD || !bA || !bB)) :: [(3, .pointer (some ⟨b3, 0, none⟩)), (4, .pointer (some ⟨b4, 0, none⟩)), (5, .pointer (some ⟨b5, 0, none⟩)), (7, .slice (some ⟨g, 0, none⟩) 10 10)]) ?_ ?_
  ·
    refine W.cut 9 ((173, .bool (!bD)) :: [(3, .pointer (some ⟨b3, 0, none⟩)), (4, .pointer (some ⟨b4, 0, none⟩)), (5, .pointer (some ⟨b5, 0, none⟩)), (7, .slice (some ⟨g, 0, none⟩) 10 10)]) ?_ ?_
    · cases bD
      all_goals
        refine W.op rfl rfl rfl (W.quiet_load rfl rfl (by first | exact LP)) ?_
        refine W.op rfl rfl rfl (W.quiet_field rfl rfl (fi1 _)) ?_
        refine W.op rfl rfl rfl (W.quiet_load rfl rfl (by first | exact LI0 | exact LI1 | exact LI2 | exact LI3 | exact LI4 | exact LI5 | exact LI6 | exact LI7)) ?_
        refine W.op rfl rfl rfl (W.quiet_move rfl rfl) ?_
        refine W.op rfl rfl rfl (W.quiet_index rfl rfl rfl (ix0 _)) ?_
        refine W.op rfl rfl rfl (W.quiet_load rfl rfl (by first | exact LF0 | exact LF1 | exact LF2 | exact LF3 | exact LF4 | exact LF5 | exact LF6 | exact LF7 | exact LF8 | exact LF9 | exact LI10)) ?_
        first
        | refine W.op rfl rfl rfl (W.quiet_call (hr := KDq) rfl rfl (fun W => cf_reg W _)) ?_
        | refine W.op rfl rfl rfl (W.quiet_call (hr := KAq) rfl rfl (fun W => cf_reg W _)) ?_
        | refine W.op rfl rfl rfl (W.quiet_call (hr := KBq) rfl rfl (fun W => cf_reg W _)) ?_
        refine W.op rfl rfl rfl (W.quiet_not rfl rfl) ?_
        refine W.op rfl rfl rfl (W.quiet_move rfl rfl) ?_
        exact W.nil (fun a h => by (repeat (refine Kn.cons h rfl ?_)); exact h.base)
    refine W.cut 10 ((183, .bool (!bD || !bA)) :: [(3, .pointer (some ⟨b3, 0, none⟩)), (4, .pointer (some ⟨b4, 0, none⟩)), (5, .pointer (some ⟨b5, 0, none⟩)), (7, .slice (some ⟨g, 0, none⟩) 10 10)]) ?_ ?_
    · generalize (!bD) = p at *
      cases p <;> cases bA
      all_goals
        first
        | refine W.skip rfl rfl rfl ?_
        | refine W.op rfl rfl rfl (W.quiet_load rfl rfl (by first | exact LP)) ?_
        first
        | refine W.skip rfl rfl rfl ?_
        | refine W.op rfl rfl rfl (W.quiet_field rfl rfl (fi2 _)) ?_
        first
        | refine W.skip rfl rfl rfl ?_
        | refine W.op rfl rfl rfl (W.quiet_load rfl rfl (by first | exact LI0 | exact LI1 | exact LI2 | exact LI3 | exact LI4 | exact LI5 | exact LI6 | exact LI7)) ?_
        first
        | refine W.skip rfl rfl rfl ?_
        | refine W.op rfl rfl rfl (W.quiet_move rfl rfl) ?_
        first
        | refine W.skip rfl rfl rfl ?_
        | refine W.op rfl rfl rfl (W.quiet_index rfl rfl rfl (ix1 _)) ?_
        first
        | refine W.skip rfl rfl rfl ?_
        | refine W.op rfl rfl rfl (W.quiet_load rfl rfl (by first | exact LF0 | exact LF1 | exact LF2 | exact LF3 | exact LF4 | exact LF5 | exact LF6 | exact LF7 | exact LF8 | exact LF9 | exact LI10)) ?_
        first
        | refine W.skip rfl rfl rfl ?_
        | refine W.op rfl rfl rfl (W.quiet_call (hr := KDq) rfl rfl (fun W => cf_reg W _)) ?_
        | refine W.op rfl rfl rfl (W.quiet_call (hr := KAq) rfl rfl (fun W => cf_reg W _)) ?_
        | refine W.op rfl rfl rfl (W.quiet_call (hr := KBq) rfl rfl (fun W => cf_reg W _)) ?_
        first
        | refine W.skip rfl rfl rfl ?_
        | refine W.op rfl rfl rfl (W.quiet_not rfl rfl) ?_
        refine W.op rfl rfl rfl (W.quiet_pick rfl rfl rfl) ?_
        refine W.op rfl rfl rfl (W.quiet_move rfl rfl) ?_
        exact W.nil (fun a h => by (repeat (refine Kn.cons h rfl ?_)); exact h.base)
    generalize (!bD || !bA) = p at *
    cases p <;> cases bB
    all_goals
      first
      | refine W.skip rfl rfl rfl ?_
      | refine W.op rfl rfl rfl (W.quiet_load rfl rfl (by first | exact LP)) ?_
      first
      | refine W.skip rfl rfl rfl ?_
      | refine W.op rfl rfl rfl (W.quiet_field rfl rfl (fi3 _)) ?_
      first
      | refine W.skip rfl rfl rfl ?_
      | refine W.op rfl rfl rfl (W.quiet_load rfl rfl (by first | exact LI0 | exact LI1 | exact LI2 | exact LI3 | exact LI4 | exact LI5 | exact LI6 | exact LI7)) ?_
      first
      | refine W.skip rfl rfl rfl ?_
      | refine W.op rfl rfl rfl (W.quiet_move rfl rfl) ?_
      first
      | refine W.skip rfl rfl rfl ?_
      | refine W.op rfl rfl rfl (W.quiet_index rfl rfl rfl (ix2 _)) ?_
      first
      | refine W.skip rfl rfl rfl ?_
      | refine W.op rfl rfl rfl (W.quiet_load rfl rfl (by first | exact LF0 | exact LF1 | exact LF2 | exact LF3 | exact LF4 | exact LF5 | exact LF6 | exact LF7 | exact LF8 | exact LF9 | exact LI10)) ?_
      first
      | refine W.skip rfl rfl rfl ?_
      | refine W.op rfl rfl rfl (W.quiet_call (hr := KDq) rfl rfl (fun W => cf_reg W _)) ?_
      | refine W.op rfl rfl rfl (W.quiet_call (hr := KAq) rfl rfl (fun W => cf_reg W _)) ?_
      | refine W.op rfl rfl rfl (W.quiet_call (hr := KBq) rfl rfl (fun W => cf_reg W _)) ?_
      first
      | refine W.skip rfl rfl rfl ?_
      | refine W.op rfl rfl rfl (W.quiet_not rfl rfl) ?_
      refine W.op rfl rfl rfl (W.quiet_pick rfl rfl rfl) ?_
      exact W.nil (fun a h => by (repeat (refine Kn.cons h rfl ?_)); exact h.base)
  rw [show (!bD || !bA || !bB) = c15 from by rw [h15]]
  refine T.cond rfl (fun hb => ?_) (fun _ => ?_)
  ·
    refine T.sreg [(6, .bool false)] ?_ (T.ret ?_)
    · refine W.op rfl rfl rfl (W.quiet_assign rfl rfl) ?_
      exact W.nil (fun a h => by (repeat (refine Kn.cons h rfl ?_)); exact h.base)
    · repeat (with_reducible refine Rt.thn ?_)
      refine body_ret rfl rfl ?_
      exact fun W hW => ⟨by rw [hb]; simp, hWW.trans hW⟩
  refine T.skip ?_
  refine T.seq ?_
  refine T.sreg ((220, .bool (k3 && (l1 || g16) || k4 && (l17 || g19))) :: [(3, .pointer (some ⟨b3, 0, none⟩)), (4, .pointer (some ⟨b4, 0, none⟩)), (5, .pointer (some ⟨b5, 0, none⟩)), (7, .slice (some ⟨g, 0, none⟩) 10 10)]) ?_ ?_
  ·
    refine W.cut 14 ((206, .bool (k3 && (l1 || g16))) :: [(3, .pointer (some ⟨b3, 0, none⟩)), (4, .pointer (some ⟨b4, 0, none⟩)), (5, .pointer (some ⟨b5, 0, none⟩)), (7, .slice (some ⟨g, 0, none⟩) 10 10)]) ?_ ?_
    · cases k3 <;> cases l1 <;> cases g16
      all_goals
        refine W.op rfl rfl rfl (W.quiet_field rfl rfl (fi0 _)) ?_
        refine W.op rfl rfl rfl (W.quiet_load rfl rfl (by first | exact LI0 | exact LI1 | exact LI2 | exact LI3 | exact LI4 | exact LI5 | exact LI6 | exact LI7)) ?_
        refine W.op rfl rfl rfl (W.quiet_bin rfl rfl rfl (by first | exact Bk9 _ _ | exact Bk3 _ _ | exact Bk4 _ _ | exact Bk7 _ _ | exact Bk8 _ _ | exact B10 _ _)) ?_
        refine W.op rfl rfl rfl (W.quiet_move rfl rfl) ?_
        first
        | refine W.skip rfl rfl rfl ?_
        | refine W.op rfl rfl rfl (W.quiet_field rfl rfl (fi4 _)) ?_
        first
        | refine W.skip rfl rfl rfl ?_
        | refine W.op rfl rfl rfl (W.quiet_load rfl rfl (by first | exact LI0 | exact LI1 | exact LI2 | exact LI3 | exact LI4 | exact LI5 | exact LI6 | exact LI7)) ?_
        first
        | refine W.skip rfl rfl rfl ?_
        | refine W.op rfl rfl rfl (W.quiet_bin rfl rfl rfl (by first | exact Bl1 _ _ | exact Bl17 _ _ | exact Blo _ _ | exact BlO _ _ | exact BlG _ _)) ?_
        first
        | refine W.skip rfl rfl rfl ?_
        | refine W.op rfl rfl rfl (W.quiet_move rfl rfl) ?_
        first
        | refine W.skip rfl rfl rfl ?_
        | refine W.op rfl rfl rfl (W.quiet_field rfl rfl (fi4 _)) ?_
        first
        | refine W.skip rfl rfl rfl ?_
        | refine W.op rfl rfl rfl (W.quiet_load rfl rfl (by first | exact LI0 | exact LI1 | exact LI2 | exact LI3 | exact LI4 | exact LI5 | exact LI6 | exact LI7)) ?_
        first
        | refine W.skip rfl rfl rfl ?_
        | refine W.op rfl rfl rfl (W.quiet_bin rfl rfl rfl (by first | exact Bna _ _ | exact Bg16 _ _ | exact Bg19 _ _ | exact Bhi _ _)) ?_
        first
        | refine W.skip rfl rfl rfl ?_
        | refine W.op rfl rfl rfl (W.quiet_pick rfl rfl rfl) ?_
        refine W.op rfl rfl rfl (W.quiet_pick rfl rfl rfl) ?_
        refine W.op rfl rfl rfl (W.quiet_move rfl rfl) ?_
        exact W.nil (fun a h => by (repeat (refine Kn.cons h rfl ?_)); exact h.base)
    generalize (k3 && (l1 || g16)) = p at *
    cases p <;> cases k4 <;> cases l17 <;> cases g19
    all_goals
      first
      | refine W.skip rfl rfl rfl ?_
      | refine W.op rfl rfl rfl (W.quiet_field rfl rfl (fi0 _)) ?_
      first
      | refine W.skip rfl rfl rfl ?_
      | refine W.op rfl rfl rfl (W.quiet_load rfl rfl (by first | exact LI0 | exact LI1 | exact LI2 | exact LI3 | exact LI4 | exact LI5 | exact LI6 | exact LI7)) ?_
      first
      | refine W.skip rfl rfl rfl ?_
      | refine W.op rfl rfl rfl (W.quiet_bin rfl rfl rfl (by first | exact Bk9 _ _ | exact Bk3 _ _ | exact Bk4 _ _ | exact Bk7 _ _ | exact Bk8 _ _ | exact B10 _ _)) ?_
      first
      | refine W.skip rfl rfl rfl ?_
      | refine W.op rfl rfl rfl (W.quiet_move rfl rfl) ?_
      first
      | refine W.skip rfl rfl rfl ?_
      | refine W.op rfl rfl rfl (W.quiet_field rfl rfl (fi4 _)) ?_
      first
      | refine W.skip rfl rfl rfl ?_
      | refine W.op rfl rfl rfl (W.quiet_load rfl rfl (by first | exact LI0 | exact LI1 | exact LI2 | exact LI3 | exact LI4 | exact LI5 | exact LI6 | exact LI7)) ?_
      first
      | refine W.skip rfl rfl rfl ?_
      | refine W.op rfl rfl rfl (W.quiet_bin rfl rfl rfl (by first | exact Bl1 _ _ | exact Bl17 _ _ | exact Blo _ _ | exact BlO _ _ | exact BlG _ _)) ?_
      first
      | refine W.skip rfl rfl rfl ?_
      | refine W.op rfl rfl rfl (W.quiet_move rfl rfl) ?_
      first
      | refine W.skip rfl rfl rfl ?_
      | refine W.op rfl rfl rfl (W.quiet_field rfl rfl (fi4 _)) ?_
      first
      | refine W.skip rfl rfl rfl ?_
      | refine W.op rfl rfl rfl (W.quiet_load rfl rfl (by first | exact LI0 | exact LI1 | exact LI2 | exact LI3 | exact LI4 | exact LI5 | exact LI6 | exact LI7)) ?_
      first
      | refine W.skip rfl rfl rfl ?_
      | refine W.op rfl rfl rfl (W.quiet_bin rfl rfl rfl (by first | exact Bna _ _ | exact Bg16 _ _ | exact Bg19 _ _ | exact Bhi _ _)) ?_
      first
      | refine W.skip rfl rfl rfl ?_
      | refine W.op rfl rfl rfl (W.quiet_pick rfl rfl rfl) ?_
      first
      | refine W.skip rfl rfl rfl ?_
      | refine W.op rfl rfl rfl (W.quiet_pick rfl rfl rfl) ?_
      refine W.op rfl rfl rfl (W.quiet_pick rfl rfl rfl) ?_
      exact W.nil (fun a h => by (repeat (refine Kn.cons h rfl ?_)); exact h.base)
  rw [show (k3 && (l1 || g16) || k4 && (l17 || g19)) = c17 from by rw [h17]]
  refine T.cond rfl (fun hb => ?_) (fun _ => ?_)
  ·
    refine T.sreg [(6, .bool false)] ?_ (T.ret ?_)
    · refine W.op rfl rfl rfl (W.quiet_assign rfl rfl) ?_
      exact W.nil (fun a h => by (repeat (refine Kn.cons h rfl ?_)); exact h.base)
    · repeat (with_reducible refine Rt.thn ?_)
      refine body_ret rfl rfl ?_
      exact fun W hW => ⟨by rw [hb]; simp, hWW.trans hW⟩
  refine T.skip ?_
  refine T.seq ?_
  refine T.sreg ((243, .bool (f6 && n1 && n4 || lo || hi)) :: [(3, .pointer (some ⟨b3, 0, none⟩)), (4, .pointer (some ⟨b4, 0, none⟩)), (5, .pointer (some ⟨b5, 0, none⟩)), (7, .slice (some ⟨g, 0, none⟩) 10 10)]) ?_ ?_
  ·
    refine W.cut 14 ((234, .bool (f6 && n1 && n4)) :: [(3, .pointer (some ⟨b3, 0, none⟩)), (4, .pointer (some ⟨b4, 0, none⟩)), (5, .pointer (some ⟨b5, 0, none⟩)), (7, .slice (some ⟨g, 0, none⟩) 10 10)]) ?_ ?_
    · cases f6 <;> cases n1 <;> cases n4
      all_goals
        refine W.op rfl rfl rfl (W.quiet_move rfl rfl) ?_
        refine W.op rfl rfl rfl (W.quiet_index rfl rfl rfl (ix6 _)) ?_
        refine W.op rfl rfl rfl (W.quiet_load rfl rfl (by first | exact LF0 | exact LF1 | exact LF2 | exact LF3 | exact LF4 | exact LF5 | exact LF6 | exact LF7 | exact LF8 | exact LF9 | exact LI10)) ?_
        refine W.op rfl rfl rfl (W.quiet_move rfl rfl) ?_
        first
        | refine W.skip rfl rfl rfl ?_
        | refine W.op rfl rfl rfl (W.quiet_field rfl rfl (fi7 _)) ?_
        first
        | refine W.skip rfl rfl rfl ?_
        | refine W.op rfl rfl rfl (W.quiet_load rfl rfl (by first | exact LI0 | exact LI1 | exact LI2 | exact LI3 | exact LI4 | exact LI5 | exact LI6 | exact LI7)) ?_
        first
        | refine W.skip rfl rfl rfl ?_
        | refine W.op rfl rfl rfl (W.quiet_bin rfl rfl rfl (by first | exact Bfn _ _ | exact Bob _ _ | exact Bof _ _ | exact Bsz _ _ | exact Bu _ _ | exact Bn1 _ _ | exact Bn4 _ _)) ?_
        refine W.op rfl rfl rfl (W.quiet_pick rfl rfl rfl) ?_
        refine W.op rfl rfl rfl (W.quiet_move rfl rfl) ?_
        first
        | refine W.skip rfl rfl rfl ?_
        | refine W.op rfl rfl rfl (W.quiet_field rfl rfl (fi7 _)) ?_
        first
        | refine W.skip rfl rfl rfl ?_
        | refine W.op rfl rfl rfl (W.quiet_load rfl rfl (by first | exact LI0 | exact LI1 | exact LI2 | exact LI3 | exact LI4 | exact LI5 | exact LI6 | exact LI7)) ?_
        first
        | refine W.skip rfl rfl rfl ?_
        | refine W.op rfl rfl rfl (W.quiet_bin rfl rfl rfl (by first | exact Bfn _ _ | exact Bob _ _ | exact Bof _ _ | exact Bsz _ _ | exact Bu _ _ | exact Bn1 _ _ | exact Bn4 _ _)) ?_
        refine W.op rfl rfl rfl (W.quiet_pick rfl rfl rfl) ?_
        refine W.op rfl rfl rfl (W.quiet_move rfl rfl) ?_
        exact W.nil (fun a h => by (repeat (refine Kn.cons h rfl ?_)); exact h.base)
    refine W.cut 5 ((239, .bool (f6 && n1 && n4 || lo)) :: [(3, .pointer (some ⟨b3, 0, none⟩)), (4, .pointer (some ⟨b4, 0, none⟩)), (5, .pointer (some ⟨b5, 0, none⟩)), (7, .slice (some ⟨g, 0, none⟩) 10 10)]) ?_ ?_
    · generalize (f6 && n1 && n4) = p at *
      cases p <;> cases lo
      all_goals
        first
        | refine W.skip rfl rfl rfl ?_
        | refine W.op rfl rfl rfl (W.quiet_field rfl rfl (fi6 _)) ?_
        first
        | refine W.skip rfl rfl rfl ?_
        | refine W.op rfl rfl rfl (W.quiet_load rfl rfl (by first | exact LI0 | exact LI1 | exact LI2 | exact LI3 | exact LI4 | exact LI5 | exact LI6 | exact LI7)) ?_
        first
        | refine W.skip rfl rfl rfl ?_
        | refine W.op rfl rfl rfl (W.quiet_bin rfl rfl rfl (by first | exact Bl1 _ _ | exact Bl17 _ _ | exact Blo _ _ | exact BlO _ _ | exact BlG _ _)) ?_
        refine W.op rfl rfl rfl (W.quiet_pick rfl rfl rfl) ?_
        refine W.op rfl rfl rfl (W.quiet_move rfl rfl) ?_
        exact W.nil (fun a h => by (repeat (refine Kn.cons h rfl ?_)); exact h.base)
    generalize (f6 && n1 && n4 || lo) = p at *
    cases p <;> cases hi
    all_goals
      first
      | refine W.skip rfl rfl rfl ?_
      | refine W.op rfl rfl rfl (W.quiet_field rfl rfl (fi6 _)) ?_
      first
      | refine W.skip rfl rfl rfl ?_
      | refine W.op rfl rfl rfl (W.quiet_load rfl rfl (by first | exact LI0 | exact LI1 | exact LI2 | exact LI3 | exact LI4 | exact LI5 | exact LI6 | exact LI7)) ?_
      first
      | refine W.skip rfl rfl rfl ?_
      | refine W.op rfl rfl rfl (W.quiet_bin rfl rfl rfl (by first | exact Bna _ _ | exact Bg16 _ _ | exact Bg19 _ _ | exact Bhi _ _)) ?_
      refine W.op rfl rfl rfl (W.quiet_pick rfl rfl rfl) ?_
      exact W.nil (fun a h => by (repeat (refine Kn.cons h rfl ?_)); exact h.base)
  rw [show (f6 && n1 && n4 || lo || hi) = c19 from by rw [h19]]
  refine T.cond rfl (fun hb => ?_) (fun _ => ?_)
  ·
    refine T.sreg [(6, .bool false)] ?_ (T.ret ?_)
    · refine W.op rfl rfl rfl (W.quiet_assign rfl rfl) ?_
      exact W.nil (fun a h => by (repeat (refine Kn.cons h rfl ?_)); exact h.base)
    · repeat (with_reducible refine Rt.thn ?_)
      refine body_ret rfl rfl ?_
      exact fun W hW => ⟨by rw [hb]; simp, hWW.trans hW⟩
  refine T.skip ?_
  refine T.seq ?_
  refine T.sreg ((246, .bool k7) :: [(3, .pointer (some ⟨b3, 0, none⟩)), (4, .pointer (some ⟨b4, 0, none⟩)), (5, .pointer (some ⟨b5, 0, none⟩)), (7, .slice (some ⟨g, 0, none⟩) 10 10)]) ?_ ?_
  ·
    refine W.op rfl rfl rfl (W.quiet_field rfl rfl (fi0 _)) ?_
    refine W.op rfl rfl rfl (W.quiet_load rfl rfl (by first | exact LI0 | exact LI1 | exact LI2 | exact LI3 | exact LI4 | exact LI5 | exact LI6 | exact LI7)) ?_
    refine W.op rfl rfl rfl (W.quiet_bin rfl rfl rfl (by first | exact Bk9 _ _ | exact Bk3 _ _ | exact Bk4 _ _ | exact Bk7 _ _ | exact Bk8 _ _ | exact B10 _ _)) ?_
    exact W.nil (fun a h => by (repeat (refine Kn.cons h rfl ?_)); exact h.base)
  refine T.cond rfl (fun hb => ?_) (fun hk7f => ?_)
  · refine T.sreg [(6, .bool (ge && lO))] ?_ (T.ret ?_)
    · cases ge <;> cases lO
      all_goals
        refine W.op rfl rfl rfl (W.quiet_field rfl rfl (fi5 _)) ?_
        refine W.op rfl rfl rfl (W.quiet_load rfl rfl (by first | exact LI0 | exact LI1 | exact LI2 | exact LI3 | exact LI4 | exact LI5 | exact LI6 | exact LI7)) ?_
        refine W.op rfl rfl rfl (W.quiet_bin rfl rfl rfl (by first | exact Bge _ _)) ?_
        refine W.op rfl rfl rfl (W.quiet_move rfl rfl) ?_
        first
        | refine W.skip rfl rfl rfl ?_
        | refine W.op rfl rfl rfl (W.quiet_field rfl rfl (fi5 _)) ?_
        first
        | refine W.skip rfl rfl rfl ?_
        | refine W.op rfl rfl rfl (W.quiet_load rfl rfl (by first | exact LI0 | exact LI1 | exact LI2 | exact LI3 | exact LI4 | exact LI5 | exact LI6 | exact LI7)) ?_
        first
        | refine W.skip rfl rfl rfl ?_
        | refine W.op rfl rfl rfl (W.quiet_field rfl rfl (fp4 _ _)) ?_
        first
        | refine W.skip rfl rfl rfl ?_
        | refine W.op rfl rfl rfl (W.quiet_load rfl rfl (by first | exact LPO | exact LMG)) ?_
        first
        | refine W.skip rfl rfl rfl ?_
        | refine W.op rfl rfl rfl (W.quiet_len rfl rfl (fun W => ln_s W _ _ _)) ?_
        first
        | refine W.skip rfl rfl rfl ?_
        | refine W.op rfl rfl rfl (W.quiet_bin rfl rfl rfl (by first | exact Bl1 _ _ | exact Bl17 _ _ | exact Blo _ _ | exact BlO _ _ | exact BlG _ _)) ?_
        refine W.op rfl rfl rfl (W.quiet_pick rfl rfl rfl) ?_
        refine W.op rfl rfl rfl (W.quiet_assign rfl rfl) ?_
        exact W.nil (fun a h => by (repeat (refine Kn.cons h rfl ?_)); exact h.base)
    · repeat (with_reducible refine Rt.thn ?_)
      refine body_ret rfl rfl ?_
      exact fun W hW => ⟨by simp_all, hWW.trans hW⟩
  refine T.skip ?_
  refine T.seq ?_
  refine T.sreg ((260, .bool k8) :: [(3, .pointer (some ⟨b3, 0, none⟩)), (4, .pointer (some ⟨b4, 0, none⟩)), (5, .pointer (some ⟨b5, 0, none⟩)), (7, .slice (some ⟨g, 0, none⟩) 10 10)]) ?_ ?_
  ·
    refine W.op rfl rfl rfl (W.quiet_field rfl rfl (fi0 _)) ?_
    refine W.op rfl rfl rfl (W.quiet_load rfl rfl (by first | exact LI0 | exact LI1 | exact LI2 | exact LI3 | exact LI4 | exact LI5 | exact LI6 | exact LI7)) ?_
    refine W.op rfl rfl rfl (W.quiet_bin rfl rfl rfl (by first | exact Bk9 _ _ | exact Bk3 _ _ | exact Bk4 _ _ | exact Bk7 _ _ | exact Bk8 _ _ | exact B10 _ _)) ?_
    exact W.nil (fun a h => by (repeat (refine Kn.cons h rfl ?_)); exact h.base)
  refine T.cond rfl (fun hb => ?_) (fun hk8f => ?_)
  · refine T.sreg [(6, .bool (ge && lG))] ?_ (T.ret ?_)
    · cases ge <;> cases lG
      all_goals
        refine W.op rfl rfl rfl (W.quiet_field rfl rfl (fi5 _)) ?_
        refine W.op rfl rfl rfl (W.quiet_load rfl rfl (by first | exact LI0 | exact LI1 | exact LI2 | exact LI3 | exact LI4 | exact LI5 | exact LI6 | exact LI7)) ?_
        refine W.op rfl rfl rfl (W.quiet_bin rfl rfl rfl (by first | exact Bge _ _)) ?_
        refine W.op rfl rfl rfl (W.quiet_move rfl rfl) ?_
        first
        | refine W.skip rfl rfl rfl ?_
        | refine W.op rfl rfl rfl (W.quiet_field rfl rfl (fi5 _)) ?_
        first
        | refine W.skip rfl rfl rfl ?_
        | refine W.op rfl rfl rfl (W.quiet_load rfl rfl (by first | exact LI0 | exact LI1 | exact LI2 | exact LI3 | exact LI4 | exact LI5 | exact LI6 | exact LI7)) ?_
        first
        | refine W.skip rfl rfl rfl ?_
        | refine W.op rfl rfl rfl (W.quiet_field rfl rfl (fm0 _)) ?_
        first
        | refine W.skip rfl rfl rfl ?_
        | refine W.op rfl rfl rfl (W.quiet_load rfl rfl (by first | exact LPO | exact LMG)) ?_
        first
        | refine W.skip rfl rfl rfl ?_
        | refine W.op rfl rfl rfl (W.quiet_len rfl rfl (fun W => ln_s W _ _ _)) ?_
        first
        | refine W.skip rfl rfl rfl ?_
        | refine W.op rfl rfl rfl (W.quiet_bin rfl rfl rfl (by first | exact Bl1 _ _ | exact Bl17 _ _ | exact Blo _ _ | exact BlO _ _ | exact BlG _ _)) ?_
        refine W.op rfl rfl rfl (W.quiet_pick rfl rfl rfl) ?_
        refine W.op rfl rfl rfl (W.quiet_assign rfl rfl) ?_
        exact W.nil (fun a h => by (repeat (refine Kn.cons h rfl ?_)); exact h.base)
    · repeat (with_reducible refine Rt.thn ?_)
      refine body_ret rfl rfl ?_
      exact fun W hW => ⟨by simp_all, hWW.trans hW⟩
  refine T.skip ?_
  refine T.sreg [(6, .bool true)] ?_ (T.ret ?_)
  ·
    refine W.op rfl rfl rfl (W.quiet_assign rfl rfl) ?_
    exact W.nil (fun a h => by (repeat (refine Kn.cons h rfl ?_)); exact h.base)
  · repeat (with_reducible refine Rt.thn ?_)
    refine body_ret rfl rfl ?_
    exact fun W hW => ⟨by simp_all, hWW.trans hW⟩
end Go.Proofs.YtdhagimcffmdfaaDoor
