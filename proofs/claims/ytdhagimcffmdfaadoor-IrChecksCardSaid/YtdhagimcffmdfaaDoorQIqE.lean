/-
  Modules (layer 13): an instruction's test, at the page's two operations.
-/
import Derived.Test.YtdhagimcffmdfaaDoorQMath
import Derived.Deep.QuietTactic
import Derived.BigQuiet
namespace Go.Proofs.YtdhagimcffmdfaaDoor
open Go.RowKit
set_option linter.unusedVariables false
set_option linter.unusedSimpArgs false
/-- A region that draws its order, whose operations yield one value in every world of a class and stay in it: one walk, in the order of the text. -/
theorem wp_region_class {P : Program} (C : World → Prop) {id : Nat} {Q : Exit → Act → World → Prop} {a : Act} {w : World} {l : List Oper} (hm : P.follows .mixedOrders = true) (hB : Region.lexB .any l.toArray = true) (hC : C w.drew)
    (h : wpQuiet P l.toArray C (fun a' => ∀ w', C w' → Q .normal a' w') l a) : (Code.region id l.toArray true).wp P Q a w :=
  wp_region_quiet (C := C) hm hB hC (by simpa using h)
theorem lexB_of {md : Region.Mode} {ops : Array Oper} {n : Nat} (hn : ops.size = n) (h0 : Region.noSelect ops = true) (h : Region.lexFrom md ops n 0 (Array.replicate n false) = true) : Region.lexB md ops = true := by
  subst hn; unfold Region.lexB; rw [h0, h]; rfl
theorem lexStep {md : Region.Mode} {ops : Array Oper} {fuel k : Nat} {listed : Array Bool} (h1 : (Region.ready md ops listed).contains k = true) (h2 : Region.free md ops listed k = true) (h3 : Region.lexFrom md ops fuel (k + 1) (listed.setIfInBounds k true) = true) : Region.lexFrom md ops (fuel + 1) k listed = true := by
  unfold Region.lexFrom; rw [h1, h2, h3]; rfl
theorem callQ {P : Program} {f : FuncId} {args : Array Value} {v : Value} {V W : World} (hW : Fr (fun _ => False) V W) (h : Calls P f args W fun e w' => e = .returned v ∧ Fr (fun _ => False) W w') : Calls P f args W fun e w' => e = .returned v ∧ Fr (fun _ => False) V w' := h.mono fun e w' hh => ⟨hh.1, hW.trans hh.2⟩
theorem reg_ok (g d p m nm vd pa ob bl : Value) (R : Int) (hR : (0 : Int) < R) (w : World) : Calls Tryd.prog 60 #[.agg #[g, d, p, m, nm, vd, pa, .int .i64 R, ob, bl], .int .i64 0, .bool true] w fun e w' => e = .returned (.bool true) ∧ Fr (fun _ => False) w w' :=
  (register_used g d p m nm vd pa ob bl R 0 w).mono fun e w' h => ⟨by rw [h.1]; simp [hR], h.2⟩
theorem reg_none (g d p m nm vd pa ob bl : Value) (R : Int) (w : World) : Calls Tryd.prog 60 #[.agg #[g, d, p, m, nm, vd, pa, .int .i64 R, ob, bl], .int .i64 (-1), .bool false] w fun e w' => e = .returned (.bool true) ∧ Fr (fun _ => False) w w' :=
  (register_un g d p m nm vd pa ob bl R (-1) w).mono fun e w' h => ⟨by rw [h.1]; rfl, h.2⟩
theorem reg_any (g d p m nm vd pa ob bl : Value) (R : Int) (hR : (0 : Int) < R) (r : Int) (u : Bool) (h : (u = true → r = 0) ∧ (u = false → r = -1)) (w : World) : Calls Tryd.prog 60 #[.agg #[g, d, p, m, nm, vd, pa, .int .i64 R, ob, bl], .int .i64 r, .bool u] w fun e w' => e = .returned (.bool true) ∧ Fr (fun _ => False) w w' := by
  cases u
  · rw [h.2 rfl]; exact reg_none g d p m nm vd pa ob bl R w
  · rw [h.1 rfl]; exact reg_ok g d p m nm vd pa ob bl R hR w
theorem fn_ok (op : Int) (h : op ≠ 3) (h' : op ≠ 4) (w : World) : Calls Tryd.prog 66 #[.int .i64 op, .int .i64 0] w fun e w' => e = .returned (.bool true) ∧ Fr (fun _ => False) w w' :=
  (c66 op 0 h h' w).mono fun e w' hh => ⟨by rw [hh.1]; rfl, hh.2 ▸ Fr.refl _ _⟩
set_option maxRecDepth 100000 in
set_option maxHeartbeats 2000000 in
theorem ins_con (g d p m nm vd pa ob bl : Value) (R : Int) (hR : (0 : Int) < R) (w : World) : Calls Tryd.prog 52 #[.agg #[g, d, p, m, nm, vd, pa, .int .i64 R, ob, bl], .agg #[.int .i64 1, .int .i64 0, .int .i64 (-1), .int .i64 (-1), .int .i64 0, .int .i64 0, .int .i64 0, .int .i64 0, .int .u32 7, .slice none 0 0, .bool false]] w fun e w' => e = .returned (.bool true) ∧ Fr (fun _ => False) w w' := by
  have HB : Hid (∀ W, Fr (fun _ => False) ((w.alloc (.cells #[g, d, p, m, nm, vd, pa, .int .i64 R, ob, bl] 60)).alloc (.cells #[.int .i64 1, .int .i64 0, .int .i64 (-1), .int .i64 (-1), .int .i64 0, .int .i64 0, .int .i64 0, .int .i64 0, .int .u32 7, .slice none 0 0, .bool false] 38)) W → (∀ (j : Nat) (y : Value), (#[g, d, p, m, nm, vd, pa, .int .i64 R, ob, bl] : Array Value)[j]? = some y → (W.alloc (.cells #[.bool true, .bool true, .bool false, .bool false, .bool false, .bool false, .bool false, .bool false, .bool false, .bool true, .bool false] 66)).cell? ⟨w.heap.size, j, none⟩ = some y) ∧ (∀ (j : Nat) (y : Value), (#[.int .i64 1, .int .i64 0, .int .i64 (-1), .int .i64 (-1), .int .i64 0, .int .i64 0, .int .i64 0, .int .i64 0, .int .u32 7, .slice none 0 0, .bool false] : Array Value)[j]? = some y → (W.alloc (.cells #[.bool true, .bool true, .bool false, .bool false, .bool false, .bool false, .bool false, .bool false, .bool false, .bool true, .bool false] 66)).cell? ⟨w.heap.size + 1, j, none⟩ = some y) ∧ Fr (fun _ => False) w W) := Lib.hid (fun W h => by
    refine ⟨fun j y hj => ((fr_al h _).cell ((fr_al (Fr.refl (fun _ => False) _) _).cell (fcell w _ 60 j y hj) id) id), fun j y hj => ?_, (fr_al (fr_al (Fr.refl _ _) _) _).trans h⟩
    have e := fcell (w.alloc (.cells #[g, d, p, m, nm, vd, pa, .int .i64 R, ob, bl] 60)) #[.int .i64 1, .int .i64 0, .int .i64 (-1), .int .i64 (-1), .int .i64 0, .int .i64 0, .int .i64 0, .int .i64 0, .int .u32 7, .slice none 0 0, .bool false] 38 j y hj
    have es : (w.alloc (.cells #[g, d, p, m, nm, vd, pa, .int .i64 R, ob, bl] 60)).heap.size = w.heap.size + 1 := by simp
    rw [es] at e
    exact (fr_al h _).cell e id)
  have hfi0 := fld0
  have hfi1 := fld1
  have hfi2 := fld2
  have hfi3 := fld3
  have hfi4 := fld4
  have hfi5 := fld5
  have hfi6 := fld6
  have hfi7 := fld7
  have hfi8 := fld8
  have hfi9 := fld9
  have hfi10 := fld10
  go_enter Tryd.func52, Tryd.ntmps52
  go_wp2_with (go_at_call 33; (with_reducible refine (fields_con _).mono ?_); rintro e w2 ⟨rfl, hf⟩; have HF := Lib.hid hf; clear hf)
  obtain ⟨bv, bi, fw⟩ := HB.out _ HF.out
  have HW := Lib.hid fw
  have HF : Hid (∀ (j : Nat) (y : Value), (#[.bool true, .bool true, .bool false, .bool false, .bool false, .bool false, .bool false, .bool false, .bool false, .bool true, .bool false] : Array Value)[j]? = some y → (w2.alloc (.cells #[.bool true, .bool true, .bool false, .bool false, .bool false, .bool false, .bool false, .bool false, .bool false, .bool true, .bool false] 66)).cell? ⟨w2.heap.size, j, none⟩ = some y) := Lib.hid (fun j y h => fcell w2 _ _ j y h)
  have HV : Hid (Fr (fun _ => False) w (w2.alloc (.cells #[.bool true, .bool true, .bool false, .bool false, .bool false, .bool false, .bool false, .bool false, .bool false, .bool true, .bool false] 66))) := Lib.hid (fr_al fw _)
  clear fw HB
  generalize w2.alloc (.cells #[.bool true, .bool true, .bool false, .bool false, .bool false, .bool false, .bool false, .bool false, .bool false, .bool true, .bool false] 66) = V at *
  generalize w2.heap.size = fb at *
  generalize w.heap.size = vb at *
  have f0 : V.cell? ⟨fb, 0, none⟩ = some (.bool true) := HF.out 0 _ rfl
  have f1 : V.cell? ⟨fb, 1, none⟩ = some (.bool true) := HF.out 1 _ rfl
  have f2 : V.cell? ⟨fb, 2, none⟩ = some (.bool false) := HF.out 2 _ rfl
  have f3 : V.cell? ⟨fb, 3, none⟩ = some (.bool false) := HF.out 3 _ rfl
  have f4 : V.cell? ⟨fb, 4, none⟩ = some (.bool false) := HF.out 4 _ rfl
  have f5 : V.cell? ⟨fb, 5, none⟩ = some (.bool false) := HF.out 5 _ rfl
  have f6 : V.cell? ⟨fb, 6, none⟩ = some (.bool false) := HF.out 6 _ rfl
  have f7 : V.cell? ⟨fb, 7, none⟩ = some (.bool false) := HF.out 7 _ rfl
  have f8 : V.cell? ⟨fb, 8, none⟩ = some (.bool false) := HF.out 8 _ rfl
  have f9 : V.cell? ⟨fb, 9, none⟩ = some (.bool true) := HF.out 9 _ rfl
  have f10 : V.cell? ⟨fb, 10, none⟩ = some (.bool false) := HF.out 10 _ rfl
  have i0 : V.cell? ⟨vb + 1, 0, none⟩ = some (.int .i64 1) := bi 0 _ rfl
  have i1 : V.cell? ⟨vb + 1, 1, none⟩ = some (.int .i64 0) := bi 1 _ rfl
  have i2 : V.cell? ⟨vb + 1, 2, none⟩ = some (.int .i64 (-1)) := bi 2 _ rfl
  have i3 : V.cell? ⟨vb + 1, 3, none⟩ = some (.int .i64 (-1)) := bi 3 _ rfl
  have i4 : V.cell? ⟨vb + 1, 4, none⟩ = some (.int .i64 0) := bi 4 _ rfl
  have i5 : V.cell? ⟨vb + 1, 5, none⟩ = some (.int .i64 0) := bi 5 _ rfl
  have i6 : V.cell? ⟨vb + 1, 6, none⟩ = some (.int .i64 0) := bi 6 _ rfl
  have i7 : V.cell? ⟨vb + 1, 7, none⟩ = some (.int .i64 0) := bi 7 _ rfl
  have i8 : V.cell? ⟨vb + 1, 8, none⟩ = some (.int .u32 7) := bi 8 _ rfl
  have i9 : V.cell? ⟨vb + 1, 9, none⟩ = some (.slice none 0 0) := bi 9 _ rfl
  have i10 : V.cell? ⟨vb + 1, 10, none⟩ = some (.bool false) := bi 10 _ rfl
  have v0 : V.cell? ⟨vb, 0, none⟩ = some (g) := bv 0 _ rfl
  have v1 : V.cell? ⟨vb, 1, none⟩ = some (d) := bv 1 _ rfl
  have v2 : V.cell? ⟨vb, 2, none⟩ = some (p) := bv 2 _ rfl
  have v3 : V.cell? ⟨vb, 3, none⟩ = some (m) := bv 3 _ rfl
  have v4 : V.cell? ⟨vb, 4, none⟩ = some (nm) := bv 4 _ rfl
  have v5 : V.cell? ⟨vb, 5, none⟩ = some (vd) := bv 5 _ rfl
  have v6 : V.cell? ⟨vb, 6, none⟩ = some (pa) := bv 6 _ rfl
  have v7 : V.cell? ⟨vb, 7, none⟩ = some (.int .i64 R) := bv 7 _ rfl
  have v8 : V.cell? ⟨vb, 8, none⟩ = some (ob) := bv 8 _ rfl
  have v9 : V.cell? ⟨vb, 9, none⟩ = some (bl) := bv 9 _ rfl
  refine wp_region_class (fun W => Fr (fun _ => False) V W) (by kernel_rfl) (by kernel_rfl) ((Fr.refl _ _).drewN 1) ?_
  repeat (first
    | go_big_quiet_skip
    | (go_big_quiet_want; go_big_quiet_op; first
      | go_big_quiet_on
      | (apply Exists.intro; refine ⟨fun W hW => ?_, ?_⟩; (first
        | with_reducible rfl
        | (simp only [Result.andThen, hW.cell f0 id, hW.cell f1 id, hW.cell f2 id, hW.cell f3 id, hW.cell f4 id, hW.cell f5 id, hW.cell f6 id, hW.cell f7 id, hW.cell f8 id, hW.cell f9 id, hW.cell f10 id, hW.cell i0 id, hW.cell i1 id, hW.cell i2 id, hW.cell i3 id, hW.cell i4 id, hW.cell i5 id, hW.cell i6 id, hW.cell i7 id, hW.cell i8 id, hW.cell i9 id, hW.cell i10 id, hW.cell v0 id, hW.cell v1 id, hW.cell v2 id, hW.cell v3 id, hW.cell v4 id, hW.cell v5 id, hW.cell v6 id, hW.cell v7 id, hW.cell v8 id, hW.cell v9 id]; first | exact ⟨rfl, rfl⟩ | exact ⟨trivial, rfl⟩)
        | (go_at_call 60; with_reducible exact callQ hW (reg_any _ _ _ _ _ _ _ _ _ _ hR _ _ (by decide) _))
        | (go_at_call 64; with_reducible exact callQ hW (void_con _ _ _ _ _ _ _ _ _ _ _))
        | (go_at_call 65; with_reducible exact callQ hW (args_con _ _ _ _ _ _ _ _ _ _ _))
        | (go_at_call 13; with_reducible exact callQ hW (def_con _ _ _ _ _ _ _ _ _ _ _))
        | (go_at_call 66; with_reducible exact callQ hW (fn_ok _ (by decide) (by decide) _))); go_big_quiet_on)))
  refine wpQuiet_nil ?_
  intro w5 hf5
  have HF5 := Lib.hid hf5
  clear hf5
  go_wp2_with fail
  dsimp only [List.append]
  refine wp_region_class (fun W => Fr (fun _ => False) V W) (by kernel_rfl) (by
    refine lexB_of (by simp only [List.size_toArray, List.length_cons, List.length_nil]; rfl) (by as_aux_lemma => kernel_rfl) ?_
    repeat (refine lexStep (by as_aux_lemma => kernel_rfl) (by as_aux_lemma => kernel_rfl) ?_)
    as_aux_lemma => kernel_rfl) ((HF5.out).drewN 1) ?_
  repeat (first
    | go_big_quiet_skip
    | (go_big_quiet_want; go_big_quiet_op; first
      | go_big_quiet_on
      | (apply Exists.intro; refine ⟨fun W hW => ?_, ?_⟩; (first
        | with_reducible rfl
        | (simp only [Result.andThen, hW.cell f0 id, hW.cell f1 id, hW.cell f2 id, hW.cell f3 id, hW.cell f4 id, hW.cell f5 id, hW.cell f6 id, hW.cell f7 id, hW.cell f8 id, hW.cell f9 id, hW.cell f10 id, hW.cell i0 id, hW.cell i1 id, hW.cell i2 id, hW.cell i3 id, hW.cell i4 id, hW.cell i5 id, hW.cell i6 id, hW.cell i7 id, hW.cell i8 id, hW.cell i9 id, hW.cell i10 id, hW.cell v0 id, hW.cell v1 id, hW.cell v2 id, hW.cell v3 id, hW.cell v4 id, hW.cell v5 id, hW.cell v6 id, hW.cell v7 id, hW.cell v8 id, hW.cell v9 id]; first | exact ⟨rfl, rfl⟩ | exact ⟨trivial, rfl⟩)
        | (go_at_call 60; with_reducible exact callQ hW (reg_any _ _ _ _ _ _ _ _ _ _ hR _ _ (by decide) _))
        | (go_at_call 64; with_reducible exact callQ hW (void_con _ _ _ _ _ _ _ _ _ _ _))
        | (go_at_call 65; with_reducible exact callQ hW (args_con _ _ _ _ _ _ _ _ _ _ _))
        | (go_at_call 13; with_reducible exact callQ hW (def_con _ _ _ _ _ _ _ _ _ _ _))
        | (go_at_call 66; with_reducible exact callQ hW (fn_ok _ (by decide) (by decide) _))); go_big_quiet_on)))
  refine wpQuiet_nil ?_
  intro w6 hf6
  have HF6 := Lib.hid hf6
  clear hf6
  go_wp2_with fail
  go_ret
  exact ⟨rfl, HV.out.trans HF6.out⟩
end Go.Proofs.YtdhagimcffmdfaaDoor
