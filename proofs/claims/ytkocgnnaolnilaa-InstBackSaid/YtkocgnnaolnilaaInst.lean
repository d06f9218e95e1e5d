/-
  An argument that is an instruction: its five numbers, read and written back.
-/
import Derived.Test.YtkocgnnaolnilaaBack
import Derived.Test.YtkocgnnaolnilaaAwake
import Derived.WideShapes
import Derived.ChangeSame
namespace Go.Proofs.Ytkocgnnaolnilaa
open Go.RowKit Go.ChangeShapes Go.WideShapes
set_option linter.unusedVariables false

theorem cells34 : Try.prog.cellsOf 34 = 5 := by kernel_rfl
theorem cells3 : Try.prog.cellsOf 3 = 1 := by kernel_rfl
section
variable {H : Type} {enc : TypeId × Value → H} {w : World} {base : Nat} {spare : Nat → Bool} {held : Bool}
theorem open_inst {r : Reach} {b0 : Nat} {v : Value} {d : DataW H} {p : List MemPlace} (hv : Value.okWide Try.prog w r b0 34 v) (h : DataW.Trod enc Try.prog w base spare held 34 v d p) :
    ∃ x0 x1 x2 x3 x4 : Int, v = .agg #[.int .i64 x0, .int .i64 x1, .int .i64 x2, .int .i64 x3, .int .i64 x4] ∧ d = .agg [.lit (.int .i64 x0), .lit (.int .i64 x1), .lit (.int .i64 x2), .lit (.int .i64 x3), .lit (.int .i64 x4)] ∧ p = [] ∧
      (Lit.int .i64 x0).wf = true ∧ (Lit.int .i64 x1).wf = true ∧ (Lit.int .i64 x2).wf = true ∧ (Lit.int .i64 x3).wf = true ∧ (Lit.int .i64 x4).wf = true := by
  obtain ⟨cs, rfl, hsz⟩ := okWide_struct Try.underlying34 hv
  have h5 := hsz.trans cells34
  obtain ⟨l⟩ := cs
  match l, h5 with
  | [c0, c1, c2, c3, c4], _ =>
    obtain ⟨fuel, hf⟩ := h
    obtain ⟨xs, n, _, hx, _, hlen, hg⟩ := DataW.trod_struct Try.underlying34 hf
    match xs, hlen with
    | [y0, y1, y2, y3, y4], _ =>
      have g0 : DataW.trod enc Try.prog w base spare held n 3 [c0] = some y0 := by simpa [Value.cells, cells3] using hg 0 _ rfl
      have g1 : DataW.trod enc Try.prog w base spare held n 3 [c1] = some y1 := by simpa [Value.cells, cells3] using hg 1 _ rfl
      have g2 : DataW.trod enc Try.prog w base spare held n 3 [c2] = some y2 := by simpa [Value.cells, cells3] using hg 2 _ rfl
      have g3 : DataW.trod enc Try.prog w base spare held n 3 [c3] = some y3 := by simpa [Value.cells, cells3] using hg 3 _ rfl
      have g4 : DataW.trod enc Try.prog w base spare held n 3 [c4] = some y4 := by simpa [Value.cells, cells3] using hg 4 _ rfl
      obtain ⟨x0, e0, q0, w0⟩ := DataW.trod_int Try.underlying3 g0
      obtain ⟨x1, e1, q1, w1⟩ := DataW.trod_int Try.underlying3 g1
      obtain ⟨x2, e2, q2, w2⟩ := DataW.trod_int Try.underlying3 g2
      obtain ⟨x3, e3, q3, w3⟩ := DataW.trod_int Try.underlying3 g3
      obtain ⟨x4, e4, q4, w4⟩ := DataW.trod_int Try.underlying3 g4
      simp only [List.cons.injEq, and_true] at e0 e1 e2 e3 e4
      subst e0 e1 e2 e3 e4 q0 q1 q2 q3 q4
      simp only [Prod.mk.injEq] at hx
      exact ⟨x0, x1, x2, x3, x4, rfl, by simpa using hx.1, by simpa using hx.2, w0, w1, w2, w3, w4⟩
theorem shut_inst {x0 x1 x2 x3 x4 : Int} (w0 : (Lit.int .i64 x0).wf = true) (w1 : (Lit.int .i64 x1).wf = true) (w2 : (Lit.int .i64 x2).wf = true) (w3 : (Lit.int .i64 x3).wf = true) (w4 : (Lit.int .i64 x4).wf = true) :
    DataW.Trod enc Try.prog w base spare held 34 (.agg #[.int .i64 x0, .int .i64 x1, .int .i64 x2, .int .i64 x3, .int .i64 x4]) (.agg [.lit (.int .i64 x0), .lit (.int .i64 x1), .lit (.int .i64 x2), .lit (.int .i64 x3), .lit (.int .i64 x4)]) [] := by
  have t : ∀ x : Int, (Lit.int .i64 x).wf = true → DataW.trod enc Try.prog w base spare held 1 3 [.int .i64 x] = some (.lit (.int .i64 x), []) := fun x hx => by simp [DataW.trod, Try.underlying3, hx]
  have m := trod_struct_mk (enc := enc) (w := w) (base := base) (spare := spare) (held := held) (n := 1) (cs := [.int .i64 x0, .int .i64 x1, .int .i64 x2, .int .i64 x3, .int .i64 x4])
    (xs := [(.lit (.int .i64 x0), []), (.lit (.int .i64 x1), []), (.lit (.int .i64 x2), []), (.lit (.int .i64 x3), []), (.lit (.int .i64 x4), [])]) Try.underlying34 (by simp [cells34])
    (by simp [cells3, t _ w0, t _ w1, t _ w2, t _ w3, t _ w4])
  exact ⟨_, by simpa [Value.cells] using m⟩
end
set_option maxRecDepth 100000 in
set_option maxHeartbeats 8000000 in
theorem back_no (op rd r1 r2 imm : Int) (h : fitsB rd r1 r2 imm (fm (ix op)) = false) (w : World) :
    Calls Try.prog 14 #[.agg #[.int .i64 op, .int .i64 rd, .int .i64 r1, .int .i64 r2, .int .i64 imm]] w fun e w' => e = .returned (.bool true) ∧ Grown w w' := by
  have K51 := Lib.hid (fun w => c51_no op rd r1 r2 imm w h)
  have HG := Lib.hid ((Grown.refl w).alloc #[.int .i64 op, .int .i64 rd, .int .i64 r1, .int .i64 r2, .int .i64 imm] 34)
  clear h
  go_enter Try.func14, Try.ntmps14
  go_wp2_with (first
    | (go_at_call 51; (with_reducible refine (K51.out _).mono ?_); rintro e w' ⟨rfl, hg⟩; replace HG := Lib.hid (grown_trans HG.out hg); clear hg)
    | (go_at_call 53; (with_reducible refine (c53 _).mono ?_); rintro e w' ⟨rfl, hg⟩; replace HG := Lib.hid (grown_trans HG.out hg); clear hg))
  go_ret
  exact ⟨rfl, HG.out⟩
set_option maxRecDepth 100000 in
set_option maxHeartbeats 8000000 in
theorem back_yes (op rd r1 r2 imm : Int) (h : fitsB rd r1 r2 imm (fm (ix op)) = true) (w : World) :
    Calls Try.prog 14 #[.agg #[.int .i64 op, .int .i64 rd, .int .i64 r1, .int .i64 r2, .int .i64 imm]] w fun e w' => e = .returned (.bool true) ∧ Grown w w' := by
  obtain ⟨e0, e1, ⟨u0, u1⟩, e3, e4, e5, e6, e7⟩ := enc_back h
  have K56 := c56_some (encW op rd r1 r2 imm) u0 u1 (ix op) e3 e0
  rw [e4, e5, e6, e7, e1] at K56
  have K51 := fun w => c51_yes op rd r1 r2 imm w h
  generalize encW op rd r1 r2 imm = U at *
  have H51 := Lib.hid K51
  have H56 := Lib.hid K56
  have HG := Lib.hid ((Grown.refl w).alloc #[.int .i64 op, .int .i64 rd, .int .i64 r1, .int .i64 r2, .int .i64 imm] 34)
  have z0 := Lib.hid (row_cell w #[.int .i64 op, .int .i64 rd, .int .i64 r1, .int .i64 r2, .int .i64 imm] 34 0 (.int .i64 op) rfl)
  have z1 := Lib.hid (row_cell w #[.int .i64 op, .int .i64 rd, .int .i64 r1, .int .i64 r2, .int .i64 imm] 34 1 (.int .i64 rd) rfl)
  have z2 := Lib.hid (row_cell w #[.int .i64 op, .int .i64 rd, .int .i64 r1, .int .i64 r2, .int .i64 imm] 34 2 (.int .i64 r1) rfl)
  have z3 := Lib.hid (row_cell w #[.int .i64 op, .int .i64 rd, .int .i64 r1, .int .i64 r2, .int .i64 imm] 34 3 (.int .i64 r2) rfl)
  have z4 := Lib.hid (row_cell w #[.int .i64 op, .int .i64 rd, .int .i64 r1, .int .i64 r2, .int .i64 imm] 34 4 (.int .i64 imm) rfl)
  clear e0 e1 e3 e4 e5 e6 e7 K51 K56 h u0 u1
  go_enter Try.func14, Try.ntmps14
  go_wp2_with (first
    | (go_at_call 51; (with_reducible refine (H51.out _).mono ?_); rintro e w' ⟨rfl, hg⟩
       replace z0 := Lib.hid (grown_cell hg z0.out)
       replace z1 := Lib.hid (grown_cell hg z1.out)
       replace z2 := Lib.hid (grown_cell hg z2.out)
       replace z3 := Lib.hid (grown_cell hg z3.out)
       replace z4 := Lib.hid (grown_cell hg z4.out)
       replace HG := Lib.hid (grown_trans HG.out hg); clear hg)
    | (go_at_call 56; (with_reducible refine (H56.out _).mono ?_); rintro e w2 ⟨rfl, hg⟩
       replace z0 := Lib.hid (grown_cell hg z0.out)
       replace z1 := Lib.hid (grown_cell hg z1.out)
       replace z2 := Lib.hid (grown_cell hg z2.out)
       replace z3 := Lib.hid (grown_cell hg z3.out)
       replace z4 := Lib.hid (grown_cell hg z4.out)
       replace HG := Lib.hid (grown_trans HG.out hg); clear hg)
    | (go_at_call 53; (with_reducible refine (c53 _).mono ?_); rintro e w3 ⟨rfl, hg⟩
       have ha := (Grown.refl w2).alloc #[.int .i64 op, .int .i64 rd, .int .i64 r1, .int .i64 r2, .int .i64 imm] 34
       have a0 := grown_cell hg (grown_cell ha z0.out)
       have a1 := grown_cell hg (grown_cell ha z1.out)
       have a2 := grown_cell hg (grown_cell ha z2.out)
       have a3 := grown_cell hg (grown_cell ha z3.out)
       have a4 := grown_cell hg (grown_cell ha z4.out)
       have b0 := grown_cell hg (row_cell w2 #[.int .i64 op, .int .i64 rd, .int .i64 r1, .int .i64 r2, .int .i64 imm] 34 0 (.int .i64 op) rfl)
       have b1 := grown_cell hg (row_cell w2 #[.int .i64 op, .int .i64 rd, .int .i64 r1, .int .i64 r2, .int .i64 imm] 34 1 (.int .i64 rd) rfl)
       have b2 := grown_cell hg (row_cell w2 #[.int .i64 op, .int .i64 rd, .int .i64 r1, .int .i64 r2, .int .i64 imm] 34 2 (.int .i64 r1) rfl)
       have b3 := grown_cell hg (row_cell w2 #[.int .i64 op, .int .i64 rd, .int .i64 r1, .int .i64 r2, .int .i64 imm] 34 3 (.int .i64 r2) rfl)
       have b4 := grown_cell hg (row_cell w2 #[.int .i64 op, .int .i64 rd, .int .i64 r1, .int .i64 r2, .int .i64 imm] 34 4 (.int .i64 imm) rfl)
       have HG2 := Lib.hid (grown_trans (HG.out.alloc _ _) hg)
       clear hg ha))
  go_ret
  exact ⟨rfl, HG2.out⟩
end Go.Proofs.Ytkocgnnaolnilaa
