/-
  Pack (layer 32): bytes.Equal, and a decoder's way out.
-/
import Derived.Test.YtcombjhkbjbncaaPkL
namespace Go.Proofs.Ytcombjhkbjbncaa
open Go.RowKit
set_option linter.unusedVariables false
set_option linter.unusedSimpArgs false
set_option linter.unnecessarySimpa false
theorem qlB_api_Errno (w : World) (g : Nat) (um0 : Int) (tt : TypeId) (h : Bx w g #[.int .i64 um0] tt) : (Instr.loadAt 28 (.pointer (some ⟨g, 0, none⟩))).run Try.prog w = .ok (.int .i64 um0) w := by
  have c0 := h.cell (j := 0) rfl
  simp [go_sem, c0]
theorem lv_ok {tmps : Array Value} (gA gE : Nat) (h2 : tmps[2]? = some (.pointer (some ⟨gA, 0, none⟩))) (h3 : tmps[3]? = some (.pointer (some ⟨gE, 0, none⟩))) {W : World} {ca da : Option Addr} {n cc m dc : Nat} {li no : Int} {e : Int} (hA : Bx W gA #[.slice ca n cc, .slice da m dc, .int .i64 li, .int .i64 no] 25) (hE : Bx W gE #[.int .i64 e] 28) {R : Ending → World → Prop} (hR : R (.returned (.tuple #[.agg #[.slice ca n cc, .slice da m dc, .int .i64 li, .int .i64 no], .int .i64 e])) W) : Leaves Try.prog Try.f10 tmps R [] .returning W := by
  refine ⟨_, ?_, hR⟩
  have l1 := qlB_api_Image W gA ca n cc da m dc li no _ hA
  have l2 := qlB_api_Errno W gE e _ hE
  simp [results, Try.results10, go_sem, h2, h3, Array.getD_eq_getD_getElem?] at l1 l2 ⊢
  simp [l1, l2]
theorem lv_idle {tmps : Array Value} (gA gE : Nat) (h2 : tmps[2]? = some (.pointer (some ⟨gA, 0, none⟩))) (h3 : tmps[3]? = some (.pointer (some ⟨gE, 0, none⟩))) {W : World} {ca da : Option Addr} {n cc m dc : Nat} {li no : Int} {e : Int} (hA : Bx W gA #[.slice ca n cc, .slice da m dc, .int .i64 li, .int .i64 no] 25) (hE : Bx W gE #[.int .i64 e] 28) {R : Ending → World → Prop} (hR : R (.returned (.tuple #[.agg #[.slice ca n cc, .slice da m dc, .int .i64 li, .int .i64 no], .int .i64 e])) W) : Leaves Try.prog Try.f10 tmps R [{ target := .fn (.func 17) #[.pointer (some ⟨gA, 0, none⟩), .pointer (some ⟨gE, 0, none⟩)], args := #[] }] .returning W := by
  refine leaves_cons (f := 17) (args := #[.pointer (some ⟨gA, 0, none⟩), .pointer (some ⟨gE, 0, none⟩)]) (by simp) (by simp [go_sem]) ?_
  refine (t_idle gA gE _).mono ?_
  rintro e u' w'' ⟨rfl, rfl, rfl⟩
  exact lv_ok gA gE h2 h3 hA hE hR
theorem lv_pan {tmps : Array Value} (gA gE : Nat) (hne : gA ≠ gE) (h2 : tmps[2]? = some (.pointer (some ⟨gA, 0, none⟩))) (h3 : tmps[3]? = some (.pointer (some ⟨gE, 0, none⟩))) {W : World} {y0 y1 y2 y3 z0 : Value} (hA : Bx W gA #[y0, y1, y2, y3] 25) (hE : Bx W gE #[z0] 28) {R : Ending → World → Prop} (hR : ∀ w', Fr (fun q => q = gA ∨ q = gE) W w' → R (.returned (.tuple #[.agg #[.slice none 0 0, .slice none 0 0, .int .i64 0, .int .i64 0], .int .i64 3])) w') : Leaves Try.prog Try.f10 tmps R [{ target := .fn (.func 17) #[.pointer (some ⟨gA, 0, none⟩), .pointer (some ⟨gE, 0, none⟩)], args := #[] }] (.panicking malf) W := by
  refine leaves_cons (f := 17) (args := #[.pointer (some ⟨gA, 0, none⟩), .pointer (some ⟨gE, 0, none⟩)]) (by simp) (by simp [go_sem]) ?_
  refine (t_catch gA gE hne y0 y1 y2 y3 z0 _ hA hE).mono ?_
  rintro e u' w'' ⟨rfl, rfl, b1, b2, ff⟩
  exact lv_ok gA gE h2 h3 b1 b2 (hR _ ff)
set_option maxRecDepth 100000 in
theorem t_beq (Z Z2 : Nat) (a a2 : Option Addr) (c c2 : Nat) (l l2 : List Int) (w : World) (ha : NumAt .u8 Z w a l) (ha2 : NumAt .u8 Z2 w a2 l2) : Calls Try.prog 20 #[.slice a l.length c, .slice a2 l2.length c2] w fun e w' => e = .returned (.bool (decide (u8s l = u8s l2))) ∧ Fr (fun _ => False) w w' := by
  have ff := Fr.refl (fun _ => False) w
  refine calls_tw Try.func20 rfl rfl (Nat.le_of_ble_eq_true rfl) ?_
  refine TW.sreg ?_
  refine WL.op rfl rfl rfl (Go.Proofs.Ytcombjhkbjbncaa.W.quiet_assign rfl rfl) ?_
  refine WL.nil ?_
  refine TW.sreg ?_
  refine WL.op rfl rfl rfl (Go.Proofs.Ytcombjhkbjbncaa.W.quiet_move rfl rfl) ?_
  refine O.cv rfl rfl rfl rfl rfl (str_of ha) ?_
  refine WL.op rfl rfl rfl (Go.Proofs.Ytcombjhkbjbncaa.W.quiet_move rfl rfl) ?_
  refine O.cv rfl rfl rfl rfl rfl (str_of ha2) ?_
  refine WL.op rfl rfl rfl (Go.Proofs.Ytcombjhkbjbncaa.W.quiet_bin rfl rfl rfl (fun W => bn_eqs W _ _ (u8s l) (u8s l2))) ?_
  refine WL.op rfl rfl rfl (Go.Proofs.Ytcombjhkbjbncaa.W.quiet_assign rfl rfl) ?_
  refine WL.nil ?_
  refine TW.rt ?_
  refine bodyw_ret rfl rfl ?_
  exact ⟨rfl, ff⟩
end Go.Proofs.Ytcombjhkbjbncaa
