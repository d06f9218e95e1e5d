/-
  Runs (layer 14): the walk of the law on functions.
-/
import Derived.Test.YtelgppoohjblnaaIrP
import Derived.Test.YtelgppoohjblnaaIrB
namespace Go.Proofs.Ytelgppoohjblnaa.irrunFns
open Go.RowKit
set_option linter.unusedVariables false
set_option linter.unusedSimpArgs false
set_option maxRecDepth 100000 in
set_option maxHeartbeats 4000000 in
theorem walk (fn a b : Int) (w0 : (Lit.int .i64 fn).wf = true) (w1 : (Lit.int .u32 a).wf = true) (w2 : (Lit.int .u32 b).wf = true) (w : World) :
    Calls Try.prog 3 #[.int .i64 fn, .int .u32 a, .int .u32 b] w fun e w' => e = .returned (.bool true) ∧ Fr (fun _ => False) w w' := by
  obtain ⟨a0, a1⟩ := wf_u32 w1
  obtain ⟨b0, b1⟩ := wf_u32 w2
  clear w0 w1 w2
  go_enter Try.func3, Try.ntmps3
  go_wp2_with (first
    | (go_at_call 5; (with_reducible refine (c5 _).mono ?_); rintro e w2 ⟨rfl, hf⟩; have HF2 := Lib.hid hf; clear hf)
    | (go_at_call 6; (with_reducible refine (c6 fn a b a0 a1 b0 b1 _).mono ?_); rintro e w3 ⟨rfl, hf⟩; have HF3 := Lib.hid (HF2.out.trans hf); clear hf)
    | (go_at_call 7; (with_reducible refine (reffn_of fn a b a0 a1 b0 b1 _).mono ?_); rintro e w4 ⟨rfl, hf⟩; have HF4 := Lib.hid (HF3.out.trans hf); clear hf))
  go_ret
  exact ⟨rfl, HF4.out⟩
end Go.Proofs.Ytelgppoohjblnaa.irrunFns
