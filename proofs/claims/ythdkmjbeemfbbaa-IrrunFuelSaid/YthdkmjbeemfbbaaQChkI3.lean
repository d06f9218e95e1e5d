/-
  Modules (layer 13): whether an instruction of operation 3 is right.
-/
import Derived.Test.YthdkmjbeemfbbaaQChkL
namespace Go.Proofs.Ythdkmjbeemfbbaa
open Go.RowKit
set_option linter.unusedVariables false
set_option linter.unusedSimpArgs false
theorem insP_3 (R : Int) (nO nG nP : Nat) (cp : Int) (cv : Bool) (D A B fn ob of sz u : Int) (args : List Int) (na : Nat) (hna : na = args.length) (lg : Bool) : InsP R nO nG nP cp cv ⟨3, D, A, B, fn, ob, of, sz, u, args, lg⟩ ↔ (RgP R D) ∧ (RgP R A) ∧ (RgP R B) ∧ (na = 0) ∧ (1 ≤ fn ∧ fn ≤ 16) ∧ (ob = 0) ∧ (u = 0) ∧ (of = 0) ∧ (sz = 0) := by
  subst hna
  unfold InsP
  simp
  try (constructor <;> (intro h; simp [h]))
set_option maxRecDepth 100000 in
set_option maxHeartbeats 8000000 in
theorem insop_3 (ga pa oa : Option Addr) (nG nP nO gc pc oc : Nat) (vd0 mn nm vd pr bl : Value) (R : Int) (cp : Int) (cv : Bool) (D A B fn ob of sz u : Int) (aa : Option Addr) (na ac : Nat) (args : List Int) (hna : na = args.length) (lg : Bool) (w : World) :
    Calls Try.prog 46 #[.agg #[.slice ga nG gc, vd0, .slice pa nP pc, mn, nm, vd, pr, .int .i64 R, .slice oa nO oc, bl], .agg #[.int .i64 3, .int .i64 D, .int .i64 A, .int .i64 B, .int .i64 fn, .int .i64 ob, .int .i64 of, .int .i64 sz, .int .u32 u, .slice aa na ac, .bool lg]] w fun e w' => InsR R nO nG nP cp cv ⟨3, D, A, B, fn, ob, of, sz, u, args, lg⟩ e ∧ Fr (fun _ => False) w w' := by
  have HIP := Lib.hid (insP_3 R nO nG nP cp cv D A B fn ob of sz u args na hna lg)
  clear hna
  have HB := Lib.hid (view_boxes w #[.slice ga nG gc, vd0, .slice pa nP pc, mn, nm, vd, pr, .int .i64 R, .slice oa nO oc, bl] #[.int .i64 3, .int .i64 D, .int .i64 A, .int .i64 B, .int .i64 fn, .int .i64 ob, .int .i64 of, .int .i64 sz, .int .u32 u, .slice aa na ac, .bool lg] #[.bool true, .bool true, .bool true, .bool true, .bool false, .bool true, .bool false, .bool false, .bool false, .bool false, .bool false])
  obtain ⟨bD, hbD⟩ : ∃ b : Bool, (b = true ↔ RgP R D) := ⟨decide (0 ≤ D) && decide (D < R), by simp [RgP]⟩
  obtain ⟨bA, hbA⟩ : ∃ b : Bool, (b = true ↔ RgP R A) := ⟨decide (0 ≤ A) && decide (A < R), by simp [RgP]⟩
  obtain ⟨bB, hbB⟩ : ∃ b : Bool, (b = true ↔ RgP R B) := ⟨decide (0 ≤ B) && decide (B < R), by simp [RgP]⟩
  obtain ⟨bG, hbG⟩ : ∃ b : Bool, (b = true ↔ na = 0) := ⟨decide (na = 0), by simp⟩
  obtain ⟨bF, hbF⟩ : ∃ b : Bool, (b = true ↔ 1 ≤ fn ∧ fn ≤ 16) := ⟨decide (1 ≤ fn ∧ fn ≤ 16), by simp⟩
  obtain ⟨bO, hbO⟩ : ∃ b : Bool, (b = true ↔ ob = 0) := ⟨decide (ob = 0), by simp⟩
  obtain ⟨bU, hbU⟩ : ∃ b : Bool, (b = true ↔ u = 0) := ⟨decide (u = 0), by simp⟩
  obtain ⟨bW, hbW⟩ : ∃ b : Bool, (b = true ↔ of = 0) := ⟨decide (of = 0), by simp⟩
  obtain ⟨bS, hbS⟩ : ∃ b : Bool, (b = true ↔ sz = 0) := ⟨decide (sz = 0), by simp⟩
  obtain ⟨nl, eN⟩ : ∃ b : Bool, (!lg) = b := ⟨_, rfl⟩
  have HNL : Hid (nl = true ↔ lg = false) := Lib.hid (by rw [← eN]; cases lg <;> simp)
  have KD := Lib.hid (fun W => reg_dec (.slice ga nG gc) vd0 (.slice pa nP pc) mn nm vd pr (.slice oa nO oc) bl R D true bD (by simpa using hbD) W)
  have KA := Lib.hid (fun W => reg_dec (.slice ga nG gc) vd0 (.slice pa nP pc) mn nm vd pr (.slice oa nO oc) bl R A true bA (by simpa using hbA) W)
  have KB := Lib.hid (fun W => reg_dec (.slice ga nG gc) vd0 (.slice pa nP pc) mn nm vd pr (.slice oa nO oc) bl R B true bB (by simpa using hbB) W)
  have KG := Lib.hid (fun W => args_dec (.slice ga nG gc) vd0 (.slice pa nP pc) mn nm vd pr (.slice oa nO oc) bl (.int .i64 R) (.int .i64 3) (.int .i64 D) (.int .i64 A) (.int .i64 B) (.int .i64 fn) (.int .i64 ob) (.int .i64 of) (.int .i64 sz) (.int .u32 u) (.bool lg) aa na ac bG hbG W)
  have KV := Lib.hid (fun W => void_ne (.slice ga nG gc) vd0 (.slice pa nP pc) mn nm vd pr (.slice oa nO oc) bl (.int .i64 R) 3 (by decide) (.int .i64 D) (.int .i64 A) (.int .i64 B) (.int .i64 fn) (.int .i64 ob) (.int .i64 of) (.int .i64 sz) (.int .u32 u) (.slice aa na ac) (.bool lg) W)
  have KE := Lib.hid (fun W => dfk_any 3 D (.int .i64 A) (.int .i64 B) (.int .i64 fn) (.int .i64 ob) (.int .i64 of) (.int .i64 sz) (.int .u32 u) (.slice aa na ac) (.bool lg) W)
  simp only [show dfkI 3 D = D from rfl] at KE
  have KF := Lib.hid (fun W => fn_dec 3 fn bF (by simpa [FnP] using hbF) W)
  have eO : (ob == 0) = bO := by cases bO <;> simp_all
  have eU : (u == 0) = bU := by cases bU <;> simp_all
  have eW : (of == 0) = bW := by cases bW <;> simp_all
  have eS : (sz == 0) = bS := by cases bS <;> simp_all
  have HbD := Lib.hid hbD
  clear hbD
  have HbA := Lib.hid hbA
  clear hbA
  have HbB := Lib.hid hbB
  clear hbB
  have HbG := Lib.hid hbG
  clear hbG
  have HbF := Lib.hid hbF
  clear hbF
  have HbO := Lib.hid hbO
  clear hbO
  have HbU := Lib.hid hbU
  clear hbU
  have HbW := Lib.hid hbW
  clear hbW
  have HbS := Lib.hid hbS
  clear hbS
  have hfi0 := fld0
  have HTV : Hid ((bD && bA && bB && bG && bF && bO && bU && bW && bS) = true ↔ InsP R nO nG nP cp cv ⟨3, D, A, B, fn, ob, of, sz, u, args, lg⟩) := Lib.hid (by rw [HIP.out]; simp only [Bool.and_eq_true, Bool.or_eq_true, HNL.out, HbD.out, HbA.out, HbB.out, HbG.out, HbF.out, HbO.out, HbU.out, HbW.out, HbS.out, and_assoc])
  go_enter Try.func46, Try.ntmps46
  go_wp2_with (go_at_call 60; (with_reducible refine (fo_3 _).mono ?_); rintro e w2 ⟨rfl, hf⟩; have HF := Lib.hid hf; clear hf)
  obtain ⟨bv, bi, bf, fw⟩ := HB.out _ HF.out
  have HV := Lib.hid fw
  clear fw HB HF
  generalize w2.alloc (.cells #[.bool true, .bool true, .bool true, .bool true, .bool false, .bool true, .bool false, .bool false, .bool false, .bool false, .bool false] 102) = V at *
  generalize w2.heap.size = fb at *
  generalize w.heap.size = vb at *
  have f0 : V.cell? ⟨fb, 0, none⟩ = some (.bool true) := bf 0 _ rfl
  have f1 : V.cell? ⟨fb, 1, none⟩ = some (.bool true) := bf 1 _ rfl
  have f2 : V.cell? ⟨fb, 2, none⟩ = some (.bool true) := bf 2 _ rfl
  have f3 : V.cell? ⟨fb, 3, none⟩ = some (.bool true) := bf 3 _ rfl
  have f4 : V.cell? ⟨fb, 4, none⟩ = some (.bool false) := bf 4 _ rfl
  have f5 : V.cell? ⟨fb, 5, none⟩ = some (.bool true) := bf 5 _ rfl
  have f6 : V.cell? ⟨fb, 6, none⟩ = some (.bool false) := bf 6 _ rfl
  have f7 : V.cell? ⟨fb, 7, none⟩ = some (.bool false) := bf 7 _ rfl
  have f8 : V.cell? ⟨fb, 8, none⟩ = some (.bool false) := bf 8 _ rfl
  have f9 : V.cell? ⟨fb, 9, none⟩ = some (.bool false) := bf 9 _ rfl
  have f10 : V.cell? ⟨fb, 10, none⟩ = some (.bool false) := bf 10 _ rfl
  have i0 : V.cell? ⟨vb + 1, 0, none⟩ = some (.int .i64 3) := bi 0 _ rfl
  have i1 : V.cell? ⟨vb + 1, 1, none⟩ = some (.int .i64 D) := bi 1 _ rfl
  have i2 : V.cell? ⟨vb + 1, 2, none⟩ = some (.int .i64 A) := bi 2 _ rfl
  have i3 : V.cell? ⟨vb + 1, 3, none⟩ = some (.int .i64 B) := bi 3 _ rfl
  have i4 : V.cell? ⟨vb + 1, 4, none⟩ = some (.int .i64 fn) := bi 4 _ rfl
  have i5 : V.cell? ⟨vb + 1, 5, none⟩ = some (.int .i64 ob) := bi 5 _ rfl
  have i6 : V.cell? ⟨vb + 1, 6, none⟩ = some (.int .i64 of) := bi 6 _ rfl
  have i7 : V.cell? ⟨vb + 1, 7, none⟩ = some (.int .i64 sz) := bi 7 _ rfl
  have i8 : V.cell? ⟨vb + 1, 8, none⟩ = some (.int .u32 u) := bi 8 _ rfl
  have i9 : V.cell? ⟨vb + 1, 9, none⟩ = some (.slice aa na ac) := bi 9 _ rfl
  have i10 : V.cell? ⟨vb + 1, 10, none⟩ = some (.bool lg) := bi 10 _ rfl
  have v0 : V.cell? ⟨vb, 0, none⟩ = some (.slice ga nG gc) := bv 0 _ rfl
  have v1 : V.cell? ⟨vb, 1, none⟩ = some (vd0) := bv 1 _ rfl
  have v2 : V.cell? ⟨vb, 2, none⟩ = some (.slice pa nP pc) := bv 2 _ rfl
  have v3 : V.cell? ⟨vb, 3, none⟩ = some (mn) := bv 3 _ rfl
  have v4 : V.cell? ⟨vb, 4, none⟩ = some (nm) := bv 4 _ rfl
  have v5 : V.cell? ⟨vb, 5, none⟩ = some (vd) := bv 5 _ rfl
  have v6 : V.cell? ⟨vb, 6, none⟩ = some (pr) := bv 6 _ rfl
  have v7 : V.cell? ⟨vb, 7, none⟩ = some (.int .i64 R) := bv 7 _ rfl
  have v8 : V.cell? ⟨vb, 8, none⟩ = some (.slice oa nO oc) := bv 8 _ rfl
  have v9 : V.cell? ⟨vb, 9, none⟩ = some (bl) := bv 9 _ rfl
  have FC := fun (W : World) (hW : Fr (fun _ => False) V W) => (And.intro (hW.cell f0 id) (And.intro (hW.cell f1 id) (And.intro (hW.cell f2 id) (And.intro (hW.cell f3 id) (And.intro (hW.cell f4 id) (And.intro (hW.cell f5 id) (And.intro (hW.cell f6 id) (And.intro (hW.cell f7 id) (And.intro (hW.cell f8 id) (And.intro (hW.cell f9 id) (And.intro (hW.cell f10 id) (And.intro (hW.cell i0 id) (And.intro (hW.cell i1 id) (And.intro (hW.cell i2 id) (And.intro (hW.cell i3 id) (And.intro (hW.cell i4 id) (And.intro (hW.cell i5 id) (And.intro (hW.cell i6 id) (And.intro (hW.cell i7 id) (And.intro (hW.cell i8 id) (And.intro (hW.cell i9 id) (And.intro (hW.cell i10 id) (And.intro (hW.cell v0 id) (And.intro (hW.cell v1 id) (And.intro (hW.cell v2 id) (And.intro (hW.cell v3 id) (And.intro (hW.cell v4 id) (And.intro (hW.cell v5 id) (And.intro (hW.cell v6 id) (And.intro (hW.cell v7 id) (And.intro (hW.cell v8 id) (hW.cell v9 id))))))))))))))))))))))))))))))))
  refine wp_region_class (fun W => Fr (fun _ => False) V W) (by kernel_rfl) (by kernel_rfl) ((Fr.refl _ _).drewN 1) ?_
  repeat (first
    | go_big_quiet_skip
    | (go_big_quiet_want; go_big_quiet_op; first
      | go_big_quiet_on
      | (apply Exists.intro; refine ⟨fun W hW => ?_, ?_⟩; (first
        | with_reducible rfl
        | (simp only [Result.andThen, FC W hW]; first | exact ⟨rfl, rfl⟩ | exact ⟨trivial, rfl⟩)
        | (go_at_call 57; with_reducible first | exact callQ hW (KD.out _) | exact callQ hW (KA.out _) | exact callQ hW (KB.out _))
        | (go_at_call 62; with_reducible exact callQ hW (KV.out _))
        | (go_at_call 63; with_reducible exact callQ hW (KG.out _))
        | (go_at_call 64; with_reducible exact callQ hW (KE.out _))
        | (go_at_call 65; with_reducible exact callQ hW (KF.out _))); go_big_quiet_on)))
  refine wpQuiet_nil ?_
  intro w5 hf5
  have HF5 := Lib.hid hf5
  clear hf5
  go_wp2_with fail
  try dsimp only [List.append]
  refine wp_region_class (fun W => Fr (fun _ => False) V W) (by kernel_rfl) lexI ((HF5.out).drewN 1) ?_
  repeat (first
      | go_big_quiet_skip
      | (go_big_quiet_want; go_big_quiet_op; first
        | go_big_quiet_on
        | (apply Exists.intro; refine ⟨fun W hW => ?_, ?_⟩; (first
          | with_reducible rfl
          | (simp only [Result.andThen, FC W hW]; first | exact ⟨rfl, rfl⟩ | exact ⟨trivial, rfl⟩)
          | (go_at_call 57; with_reducible first | exact callQ hW (KD.out _) | exact callQ hW (KA.out _) | exact callQ hW (KB.out _))
          | (go_at_call 62; with_reducible exact callQ hW (KV.out _))
          | (go_at_call 63; with_reducible exact callQ hW (KG.out _))
          | (go_at_call 64; with_reducible exact callQ hW (KE.out _))
          | (go_at_call 65; with_reducible exact callQ hW (KF.out _))); go_big_quiet_on)))
  cases bD
  · repeat (first
        | go_big_quiet_skip
        | (go_big_quiet_want; go_big_quiet_op; first
          | go_big_quiet_on
          | (apply Exists.intro; refine ⟨fun W hW => ?_, ?_⟩; (first
            | with_reducible rfl
            | (simp only [Result.andThen, FC W hW]; first | exact ⟨rfl, rfl⟩ | exact ⟨trivial, rfl⟩)
            | (go_at_call 57; with_reducible first | exact callQ hW (KD.out _) | exact callQ hW (KA.out _) | exact callQ hW (KB.out _))
            | (go_at_call 62; with_reducible exact callQ hW (KV.out _))
            | (go_at_call 63; with_reducible exact callQ hW (KG.out _))
            | (go_at_call 64; with_reducible exact callQ hW (KE.out _))
            | (go_at_call 65; with_reducible exact callQ hW (KF.out _))); go_big_quiet_on)))
    refine wpQuiet_nil ?_
    intro w6 hf6
    have HF6 := Lib.hid hf6
    clear hf6
    go_wp2_with fail
    go_ret
    exact ⟨⟨_, rfl, HTV.out⟩, HV.out.trans HF6.out⟩
  · repeat (first
        | go_big_quiet_skip
        | (go_big_quiet_want; go_big_quiet_op; first
          | go_big_quiet_on
          | (apply Exists.intro; refine ⟨fun W hW => ?_, ?_⟩; (first
            | with_reducible rfl
            | (simp only [Result.andThen, FC W hW]; first | exact ⟨rfl, rfl⟩ | exact ⟨trivial, rfl⟩)
            | (go_at_call 57; with_reducible first | exact callQ hW (KD.out _) | exact callQ hW (KA.out _) | exact callQ hW (KB.out _))
            | (go_at_call 62; with_reducible exact callQ hW (KV.out _))
            | (go_at_call 63; with_reducible exact callQ hW (KG.out _))
            | (go_at_call 64; with_reducible exact callQ hW (KE.out _))
            | (go_at_call 65; with_reducible exact callQ hW (KF.out _))); go_big_quiet_on)))
    cases bA
    · repeat (first
          | go_big_quiet_skip
          | (go_big_quiet_want; go_big_quiet_op; first
            | go_big_quiet_on
            | (apply Exists.intro; refine ⟨fun W hW => ?_, ?_⟩; (first
              | with_reducible rfl
              | (simp only [Result.andThen, FC W hW]; first | exact ⟨rfl, rfl⟩ | exact ⟨trivial, rfl⟩)
              | (go_at_call 57; with_reducible first | exact callQ hW (KD.out _) | exact callQ hW (KA.out _) | exact callQ hW (KB.out _))
              | (go_at_call 62; with_reducible exact callQ hW (KV.out _))
              | (go_at_call 63; with_reducible exact callQ hW (KG.out _))
              | (go_at_call 64; with_reducible exact callQ hW (KE.out _))
              | (go_at_call 65; with_reducible exact callQ hW (KF.out _))); go_big_quiet_on)))
      refine wpQuiet_nil ?_
      intro w6 hf6
      have HF6 := Lib.hid hf6
      clear hf6
      go_wp2_with fail
      go_ret
      exact ⟨⟨_, rfl, HTV.out⟩, HV.out.trans HF6.out⟩
    · repeat (first
          | go_big_quiet_skip
          | (go_big_quiet_want; go_big_quiet_op; first
            | go_big_quiet_on
            | (apply Exists.intro; refine ⟨fun W hW => ?_, ?_⟩; (first
              | with_reducible rfl
              | (simp only [Result.andThen, FC W hW]; first | exact ⟨rfl, rfl⟩ | exact ⟨trivial, rfl⟩)
              | (go_at_call 57; with_reducible first | exact callQ hW (KD.out _) | exact callQ hW (KA.out _) | exact callQ hW (KB.out _))
              | (go_at_call 62; with_reducible exact callQ hW (KV.out _))
              | (go_at_call 63; with_reducible exact callQ hW (KG.out _))
              | (go_at_call 64; with_reducible exact callQ hW (KE.out _))
              | (go_at_call 65; with_reducible exact callQ hW (KF.out _))); go_big_quiet_on)))
      cases bB
      · repeat (first
            | go_big_quiet_skip
            | (go_big_quiet_want; go_big_quiet_op; first
              | go_big_quiet_on
              | (apply Exists.intro; refine ⟨fun W hW => ?_, ?_⟩; (first
                | with_reducible rfl
                | (simp only [Result.andThen, FC W hW]; first | exact ⟨rfl, rfl⟩ | exact ⟨trivial, rfl⟩)
                | (go_at_call 57; with_reducible first | exact callQ hW (KD.out _) | exact callQ hW (KA.out _) | exact callQ hW (KB.out _))
                | (go_at_call 62; with_reducible exact callQ hW (KV.out _))
                | (go_at_call 63; with_reducible exact callQ hW (KG.out _))
                | (go_at_call 64; with_reducible exact callQ hW (KE.out _))
                | (go_at_call 65; with_reducible exact callQ hW (KF.out _))); go_big_quiet_on)))
        refine wpQuiet_nil ?_
        intro w6 hf6
        have HF6 := Lib.hid hf6
        clear hf6
        go_wp2_with fail
        go_ret
        exact ⟨⟨_, rfl, HTV.out⟩, HV.out.trans HF6.out⟩
      · repeat (first
            | go_big_quiet_skip
            | (go_big_quiet_want; go_big_quiet_op; first
              | go_big_quiet_on
              | (apply Exists.intro; refine ⟨fun W hW => ?_, ?_⟩; (first
                | with_reducible rfl
                | (simp only [Result.andThen, FC W hW]; first | exact ⟨rfl, rfl⟩ | exact ⟨trivial, rfl⟩)
                | (go_at_call 57; with_reducible first | exact callQ hW (KD.out _) | exact callQ hW (KA.out _) | exact callQ hW (KB.out _))
                | (go_at_call 62; with_reducible exact callQ hW (KV.out _))
                | (go_at_call 63; with_reducible exact callQ hW (KG.out _))
                | (go_at_call 64; with_reducible exact callQ hW (KE.out _))
                | (go_at_call 65; with_reducible exact callQ hW (KF.out _))); go_big_quiet_on)))
        cases bG
        · repeat (first
              | go_big_quiet_skip
              | (go_big_quiet_want; go_big_quiet_op; first
                | go_big_quiet_on
                | (apply Exists.intro; refine ⟨fun W hW => ?_, ?_⟩; (first
                  | with_reducible rfl
                  | (simp only [Result.andThen, FC W hW]; first | exact ⟨rfl, rfl⟩ | exact ⟨trivial, rfl⟩)
                  | (go_at_call 57; with_reducible first | exact callQ hW (KD.out _) | exact callQ hW (KA.out _) | exact callQ hW (KB.out _))
                  | (go_at_call 62; with_reducible exact callQ hW (KV.out _))
                  | (go_at_call 63; with_reducible exact callQ hW (KG.out _))
                  | (go_at_call 64; with_reducible exact callQ hW (KE.out _))
                  | (go_at_call 65; with_reducible exact callQ hW (KF.out _))); go_big_quiet_on)))
          refine wpQuiet_nil ?_
          intro w6 hf6
          have HF6 := Lib.hid hf6
          clear hf6
          go_wp2_with fail
          go_ret
          exact ⟨⟨_, rfl, HTV.out⟩, HV.out.trans HF6.out⟩
        · repeat (first
              | go_big_quiet_skip
              | (go_big_quiet_want; go_big_quiet_op; first
                | go_big_quiet_on
                | (apply Exists.intro; refine ⟨fun W hW => ?_, ?_⟩; (first
                  | with_reducible rfl
                  | (simp only [Result.andThen, FC W hW]; first | exact ⟨rfl, rfl⟩ | exact ⟨trivial, rfl⟩)
                  | (go_at_call 57; with_reducible first | exact callQ hW (KD.out _) | exact callQ hW (KA.out _) | exact callQ hW (KB.out _))
                  | (go_at_call 62; with_reducible exact callQ hW (KV.out _))
                  | (go_at_call 63; with_reducible exact callQ hW (KG.out _))
                  | (go_at_call 64; with_reducible exact callQ hW (KE.out _))
                  | (go_at_call 65; with_reducible exact callQ hW (KF.out _))); go_big_quiet_on)))
          cases nl
          · have eD : (D != -1) = true := by have z := (HbD.out).1 rfl; unfold RgP at z; simp; omega
            repeat (first
                | go_big_quiet_skip
                | (go_big_quiet_want; go_big_quiet_op; first
                  | go_big_quiet_on
                  | (apply Exists.intro; refine ⟨fun W hW => ?_, ?_⟩; (first
                    | with_reducible rfl
                    | (simp only [Result.andThen, FC W hW]; first | exact ⟨rfl, rfl⟩ | exact ⟨trivial, rfl⟩)
                    | (go_at_call 57; with_reducible first | exact callQ hW (KD.out _) | exact callQ hW (KA.out _) | exact callQ hW (KB.out _))
                    | (go_at_call 62; with_reducible exact callQ hW (KV.out _))
                    | (go_at_call 63; with_reducible exact callQ hW (KG.out _))
                    | (go_at_call 64; with_reducible exact callQ hW (KE.out _))
                    | (go_at_call 65; with_reducible exact callQ hW (KF.out _))); go_big_quiet_on)))
            cases bF
            · repeat (first
                  | go_big_quiet_skip
                  | (go_big_quiet_want; go_big_quiet_op; first
                    | go_big_quiet_on
                    | (apply Exists.intro; refine ⟨fun W hW => ?_, ?_⟩; (first
                      | with_reducible rfl
                      | (simp only [Result.andThen, FC W hW]; first | exact ⟨rfl, rfl⟩ | exact ⟨trivial, rfl⟩)
                      | (go_at_call 57; with_reducible first | exact callQ hW (KD.out _) | exact callQ hW (KA.out _) | exact callQ hW (KB.out _))
                      | (go_at_call 62; with_reducible exact callQ hW (KV.out _))
                      | (go_at_call 63; with_reducible exact callQ hW (KG.out _))
                      | (go_at_call 64; with_reducible exact callQ hW (KE.out _))
                      | (go_at_call 65; with_reducible exact callQ hW (KF.out _))); go_big_quiet_on)))
              refine wpQuiet_nil ?_
              intro w6 hf6
              have HF6 := Lib.hid hf6
              clear hf6
              go_wp2_with fail
              go_ret
              exact ⟨⟨_, rfl, HTV.out⟩, HV.out.trans HF6.out⟩
            · repeat (first
                  | go_big_quiet_skip
                  | (go_big_quiet_want; go_big_quiet_op; first
                    | go_big_quiet_on
                    | (apply Exists.intro; refine ⟨fun W hW => ?_, ?_⟩; (first
                      | with_reducible rfl
                      | (simp only [Result.andThen, FC W hW]; first | exact ⟨rfl, rfl⟩ | exact ⟨trivial, rfl⟩)
                      | (go_at_call 57; with_reducible first | exact callQ hW (KD.out _) | exact callQ hW (KA.out _) | exact callQ hW (KB.out _))
                      | (go_at_call 62; with_reducible exact callQ hW (KV.out _))
                      | (go_at_call 63; with_reducible exact callQ hW (KG.out _))
                      | (go_at_call 64; with_reducible exact callQ hW (KE.out _))
                      | (go_at_call 65; with_reducible exact callQ hW (KF.out _))); go_big_quiet_on)))
              cases bO
              · repeat (first
                    | go_big_quiet_skip
                    | (go_big_quiet_want; go_big_quiet_op; first
                      | go_big_quiet_on
                      | (apply Exists.intro; refine ⟨fun W hW => ?_, ?_⟩; (first
                        | with_reducible rfl
                        | (simp only [Result.andThen, FC W hW]; first | exact ⟨rfl, rfl⟩ | exact ⟨trivial, rfl⟩)
                        | (go_at_call 57; with_reducible first | exact callQ hW (KD.out _) | exact callQ hW (KA.out _) | exact callQ hW (KB.out _))
                        | (go_at_call 62; with_reducible exact callQ hW (KV.out _))
                        | (go_at_call 63; with_reducible exact callQ hW (KG.out _))
                        | (go_at_call 64; with_reducible exact callQ hW (KE.out _))
                        | (go_at_call 65; with_reducible exact callQ hW (KF.out _))); go_big_quiet_on)))
                refine wpQuiet_nil ?_
                intro w6 hf6
                have HF6 := Lib.hid hf6
                clear hf6
                go_wp2_with fail
                go_ret
                exact ⟨⟨_, rfl, HTV.out⟩, HV.out.trans HF6.out⟩
              · repeat (first
                    | go_big_quiet_skip
                    | (go_big_quiet_want; go_big_quiet_op; first
                      | go_big_quiet_on
                      | (apply Exists.intro; refine ⟨fun W hW => ?_, ?_⟩; (first
                        | with_reducible rfl
                        | (simp only [Result.andThen, FC W hW]; first | exact ⟨rfl, rfl⟩ | exact ⟨trivial, rfl⟩)
                        | (go_at_call 57; with_reducible first | exact callQ hW (KD.out _) | exact callQ hW (KA.out _) | exact callQ hW (KB.out _))
                        | (go_at_call 62; with_reducible exact callQ hW (KV.out _))
                        | (go_at_call 63; with_reducible exact callQ hW (KG.out _))
                        | (go_at_call 64; with_reducible exact callQ hW (KE.out _))
                        | (go_at_call 65; with_reducible exact callQ hW (KF.out _))); go_big_quiet_on)))
                cases bU
                · repeat (first
                      | go_big_quiet_skip
                      | (go_big_quiet_want; go_big_quiet_op; first
                        | go_big_quiet_on
                        | (apply Exists.intro; refine ⟨fun W hW => ?_, ?_⟩; (first
                          | with_reducible rfl
                          | (simp only [Result.andThen, FC W hW]; first | exact ⟨rfl, rfl⟩ | exact ⟨trivial, rfl⟩)
                          | (go_at_call 57; with_reducible first | exact callQ hW (KD.out _) | exact callQ hW (KA.out _) | exact callQ hW (KB.out _))
                          | (go_at_call 62; with_reducible exact callQ hW (KV.out _))
                          | (go_at_call 63; with_reducible exact callQ hW (KG.out _))
                          | (go_at_call 64; with_reducible exact callQ hW (KE.out _))
                          | (go_at_call 65; with_reducible exact callQ hW (KF.out _))); go_big_quiet_on)))
                  refine wpQuiet_nil ?_
                  intro w6 hf6
                  have HF6 := Lib.hid hf6
                  clear hf6
                  go_wp2_with fail
                  go_ret
                  exact ⟨⟨_, rfl, HTV.out⟩, HV.out.trans HF6.out⟩
                · repeat (first
                      | go_big_quiet_skip
                      | (go_big_quiet_want; go_big_quiet_op; first
                        | go_big_quiet_on
                        | (apply Exists.intro; refine ⟨fun W hW => ?_, ?_⟩; (first
                          | with_reducible rfl
                          | (simp only [Result.andThen, FC W hW]; first | exact ⟨rfl, rfl⟩ | exact ⟨trivial, rfl⟩)
                          | (go_at_call 57; with_reducible first | exact callQ hW (KD.out _) | exact callQ hW (KA.out _) | exact callQ hW (KB.out _))
                          | (go_at_call 62; with_reducible exact callQ hW (KV.out _))
                          | (go_at_call 63; with_reducible exact callQ hW (KG.out _))
                          | (go_at_call 64; with_reducible exact callQ hW (KE.out _))
                          | (go_at_call 65; with_reducible exact callQ hW (KF.out _))); go_big_quiet_on)))
                  cases bW
                  · repeat (first
                        | go_big_quiet_skip
                        | (go_big_quiet_want; go_big_quiet_op; first
                          | go_big_quiet_on
                          | (apply Exists.intro; refine ⟨fun W hW => ?_, ?_⟩; (first
                            | with_reducible rfl
                            | (simp only [Result.andThen, FC W hW]; first | exact ⟨rfl, rfl⟩ | exact ⟨trivial, rfl⟩)
                            | (go_at_call 57; with_reducible first | exact callQ hW (KD.out _) | exact callQ hW (KA.out _) | exact callQ hW (KB.out _))
                            | (go_at_call 62; with_reducible exact callQ hW (KV.out _))
                            | (go_at_call 63; with_reducible exact callQ hW (KG.out _))
                            | (go_at_call 64; with_reducible exact callQ hW (KE.out _))
                            | (go_at_call 65; with_reducible exact callQ hW (KF.out _))); go_big_quiet_on)))
                    refine wpQuiet_nil ?_
                    intro w6 hf6
                    have HF6 := Lib.hid hf6
                    clear hf6
                    go_wp2_with fail
                    go_ret
                    exact ⟨⟨_, rfl, HTV.out⟩, HV.out.trans HF6.out⟩
                  · repeat (first
                        | go_big_quiet_skip
                        | (go_big_quiet_want; go_big_quiet_op; first
                          | go_big_quiet_on
                          | (apply Exists.intro; refine ⟨fun W hW => ?_, ?_⟩; (first
                            | with_reducible rfl
                            | (simp only [Result.andThen, FC W hW]; first | exact ⟨rfl, rfl⟩ | exact ⟨trivial, rfl⟩)
                            | (go_at_call 57; with_reducible first | exact callQ hW (KD.out _) | exact callQ hW (KA.out _) | exact callQ hW (KB.out _))
                            | (go_at_call 62; with_reducible exact callQ hW (KV.out _))
                            | (go_at_call 63; with_reducible exact callQ hW (KG.out _))
                            | (go_at_call 64; with_reducible exact callQ hW (KE.out _))
                            | (go_at_call 65; with_reducible exact callQ hW (KF.out _))); go_big_quiet_on)))
                    refine wpQuiet_nil ?_
                    intro w6 hf6
                    have HF6 := Lib.hid hf6
                    clear hf6
                    go_wp2_with fail
                    go_ret
                    exact ⟨⟨_, rfl, HTV.out⟩, HV.out.trans HF6.out⟩
          · repeat (first
                | go_big_quiet_skip
                | (go_big_quiet_want; go_big_quiet_op; first
                  | go_big_quiet_on
                  | (apply Exists.intro; refine ⟨fun W hW => ?_, ?_⟩; (first
                    | with_reducible rfl
                    | (simp only [Result.andThen, FC W hW]; first | exact ⟨rfl, rfl⟩ | exact ⟨trivial, rfl⟩)
                    | (go_at_call 57; with_reducible first | exact callQ hW (KD.out _) | exact callQ hW (KA.out _) | exact callQ hW (KB.out _))
                    | (go_at_call 62; with_reducible exact callQ hW (KV.out _))
                    | (go_at_call 63; with_reducible exact callQ hW (KG.out _))
                    | (go_at_call 64; with_reducible exact callQ hW (KE.out _))
                    | (go_at_call 65; with_reducible exact callQ hW (KF.out _))); go_big_quiet_on)))
            cases bF
            · repeat (first
                  | go_big_quiet_skip
                  | (go_big_quiet_want; go_big_quiet_op; first
                    | go_big_quiet_on
                    | (apply Exists.intro; refine ⟨fun W hW => ?_, ?_⟩; (first
                      | with_reducible rfl
                      | (simp only [Result.andThen, FC W hW]; first | exact ⟨rfl, rfl⟩ | exact ⟨trivial, rfl⟩)
                      | (go_at_call 57; with_reducible first | exact callQ hW (KD.out _) | exact callQ hW (KA.out _) | exact callQ hW (KB.out _))
                      | (go_at_call 62; with_reducible exact callQ hW (KV.out _))
                      | (go_at_call 63; with_reducible exact callQ hW (KG.out _))
                      | (go_at_call 64; with_reducible exact callQ hW (KE.out _))
                      | (go_at_call 65; with_reducible exact callQ hW (KF.out _))); go_big_quiet_on)))
              refine wpQuiet_nil ?_
              intro w6 hf6
              have HF6 := Lib.hid hf6
              clear hf6
              go_wp2_with fail
              go_ret
              exact ⟨⟨_, rfl, HTV.out⟩, HV.out.trans HF6.out⟩
            · repeat (first
                  | go_big_quiet_skip
                  | (go_big_quiet_want; go_big_quiet_op; first
                    | go_big_quiet_on
                    | (apply Exists.intro; refine ⟨fun W hW => ?_, ?_⟩; (first
                      | with_reducible rfl
                      | (simp only [Result.andThen, FC W hW]; first | exact ⟨rfl, rfl⟩ | exact ⟨trivial, rfl⟩)
                      | (go_at_call 57; with_reducible first | exact callQ hW (KD.out _) | exact callQ hW (KA.out _) | exact callQ hW (KB.out _))
                      | (go_at_call 62; with_reducible exact callQ hW (KV.out _))
                      | (go_at_call 63; with_reducible exact callQ hW (KG.out _))
                      | (go_at_call 64; with_reducible exact callQ hW (KE.out _))
                      | (go_at_call 65; with_reducible exact callQ hW (KF.out _))); go_big_quiet_on)))
              cases bO
              · repeat (first
                    | go_big_quiet_skip
                    | (go_big_quiet_want; go_big_quiet_op; first
                      | go_big_quiet_on
                      | (apply Exists.intro; refine ⟨fun W hW => ?_, ?_⟩; (first
                        | with_reducible rfl
                        | (simp only [Result.andThen, FC W hW]; first | exact ⟨rfl, rfl⟩ | exact ⟨trivial, rfl⟩)
                        | (go_at_call 57; with_reducible first | exact callQ hW (KD.out _) | exact callQ hW (KA.out _) | exact callQ hW (KB.out _))
                        | (go_at_call 62; with_reducible exact callQ hW (KV.out _))
                        | (go_at_call 63; with_reducible exact callQ hW (KG.out _))
                        | (go_at_call 64; with_reducible exact callQ hW (KE.out _))
                        | (go_at_call 65; with_reducible exact callQ hW (KF.out _))); go_big_quiet_on)))
                refine wpQuiet_nil ?_
                intro w6 hf6
                have HF6 := Lib.hid hf6
                clear hf6
                go_wp2_with fail
                go_ret
                exact ⟨⟨_, rfl, HTV.out⟩, HV.out.trans HF6.out⟩
              · repeat (first
                    | go_big_quiet_skip
                    | (go_big_quiet_want; go_big_quiet_op; first
                      | go_big_quiet_on
                      | (apply Exists.intro; refine ⟨fun W hW => ?_, ?_⟩; (first
                        | with_reducible rfl
                        | (simp only [Result.andThen, FC W hW]; first | exact ⟨rfl, rfl⟩ | exact ⟨trivial, rfl⟩)
                        | (go_at_call 57; with_reducible first | exact callQ hW (KD.out _) | exact callQ hW (KA.out _) | exact callQ hW (KB.out _))
                        | (go_at_call 62; with_reducible exact callQ hW (KV.out _))
                        | (go_at_call 63; with_reducible exact callQ hW (KG.out _))
                        | (go_at_call 64; with_reducible exact callQ hW (KE.out _))
                        | (go_at_call 65; with_reducible exact callQ hW (KF.out _))); go_big_quiet_on)))
                cases bU
                · repeat (first
                      | go_big_quiet_skip
                      | (go_big_quiet_want; go_big_quiet_op; first
                        | go_big_quiet_on
                        | (apply Exists.intro; refine ⟨fun W hW => ?_, ?_⟩; (first
                          | with_reducible rfl
                          | (simp only [Result.andThen, FC W hW]; first | exact ⟨rfl, rfl⟩ | exact ⟨trivial, rfl⟩)
                          | (go_at_call 57; with_reducible first | exact callQ hW (KD.out _) | exact callQ hW (KA.out _) | exact callQ hW (KB.out _))
                          | (go_at_call 62; with_reducible exact callQ hW (KV.out _))
                          | (go_at_call 63; with_reducible exact callQ hW (KG.out _))
                          | (go_at_call 64; with_reducible exact callQ hW (KE.out _))
                          | (go_at_call 65; with_reducible exact callQ hW (KF.out _))); go_big_quiet_on)))
                  refine wpQuiet_nil ?_
                  intro w6 hf6
                  have HF6 := Lib.hid hf6
                  clear hf6
                  go_wp2_with fail
                  go_ret
                  exact ⟨⟨_, rfl, HTV.out⟩, HV.out.trans HF6.out⟩
                · repeat (first
                      | go_big_quiet_skip
                      | (go_big_quiet_want; go_big_quiet_op; first
                        | go_big_quiet_on
                        | (apply Exists.intro; refine ⟨fun W hW => ?_, ?_⟩; (first
                          | with_reducible rfl
                          | (simp only [Result.andThen, FC W hW]; first | exact ⟨rfl, rfl⟩ | exact ⟨trivial, rfl⟩)
                          | (go_at_call 57; with_reducible first | exact callQ hW (KD.out _) | exact callQ hW (KA.out _) | exact callQ hW (KB.out _))
                          | (go_at_call 62; with_reducible exact callQ hW (KV.out _))
                          | (go_at_call 63; with_reducible exact callQ hW (KG.out _))
                          | (go_at_call 64; with_reducible exact callQ hW (KE.out _))
                          | (go_at_call 65; with_reducible exact callQ hW (KF.out _))); go_big_quiet_on)))
                  cases bW
                  · repeat (first
                        | go_big_quiet_skip
                        | (go_big_quiet_want; go_big_quiet_op; first
                          | go_big_quiet_on
                          | (apply Exists.intro; refine ⟨fun W hW => ?_, ?_⟩; (first
                            | with_reducible rfl
                            | (simp only [Result.andThen, FC W hW]; first | exact ⟨rfl, rfl⟩ | exact ⟨trivial, rfl⟩)
                            | (go_at_call 57; with_reducible first | exact callQ hW (KD.out _) | exact callQ hW (KA.out _) | exact callQ hW (KB.out _))
                            | (go_at_call 62; with_reducible exact callQ hW (KV.out _))
                            | (go_at_call 63; with_reducible exact callQ hW (KG.out _))
                            | (go_at_call 64; with_reducible exact callQ hW (KE.out _))
                            | (go_at_call 65; with_reducible exact callQ hW (KF.out _))); go_big_quiet_on)))
                    refine wpQuiet_nil ?_
                    intro w6 hf6
                    have HF6 := Lib.hid hf6
                    clear hf6
                    go_wp2_with fail
                    go_ret
                    exact ⟨⟨_, rfl, HTV.out⟩, HV.out.trans HF6.out⟩
                  · repeat (first
                        | go_big_quiet_skip
                        | (go_big_quiet_want; go_big_quiet_op; first
                          | go_big_quiet_on
                          | (apply Exists.intro; refine ⟨fun W hW => ?_, ?_⟩; (first
                            | with_reducible rfl
                            | (simp only [Result.andThen, FC W hW]; first | exact ⟨rfl, rfl⟩ | exact ⟨trivial, rfl⟩)
                            | (go_at_call 57; with_reducible first | exact callQ hW (KD.out _) | exact callQ hW (KA.out _) | exact callQ hW (KB.out _))
                            | (go_at_call 62; with_reducible exact callQ hW (KV.out _))
                            | (go_at_call 63; with_reducible exact callQ hW (KG.out _))
                            | (go_at_call 64; with_reducible exact callQ hW (KE.out _))
                            | (go_at_call 65; with_reducible exact callQ hW (KF.out _))); go_big_quiet_on)))
                    refine wpQuiet_nil ?_
                    intro w6 hf6
                    have HF6 := Lib.hid hf6
                    clear hf6
                    go_wp2_with fail
                    go_ret
                    exact ⟨⟨_, rfl, HTV.out⟩, HV.out.trans HF6.out⟩
end Go.Proofs.Ythdkmjbeemfbbaa
