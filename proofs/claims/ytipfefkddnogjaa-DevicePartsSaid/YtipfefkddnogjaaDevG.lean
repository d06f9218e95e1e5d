/-
  The contracts of tell (but for the port of records) and of store where there is no port (layer 3).
-/
import Derived.Test.YtipfefkddnogjaaDevF
import Derived.Outline
import Derived.BigRegion
namespace Go.Proofs.Ytipfefkddnogjaa
open Go.RowKit
set_option linter.unusedVariables false
set_option linter.unusedSimpArgs false
theorem c95_seq (b : Nat) (v x : Int) (w : World) (hx : w.cell? ⟨b, 33, none⟩ = some (.int .u32 x)) (hf : w.frozen? ⟨b, 33, none⟩ = false) :
    Calls Try.prog 95 #[.pointer (some ⟨b, 0, none⟩), .int .u32 536870912, .int .u32 v] w fun e w' => e = .returned (.bool true) ∧ w' = w.setCell ⟨b, 33, none⟩ (.int .u32 v) := by
  go_enter Try.func95, Try.ntmps95
  go_wp2
  go_ret
  exact ⟨rfl, rfl⟩
theorem c95_index (b : Nat) (v x : Int) (w : World) (hx : w.cell? ⟨b, 34, none⟩ = some (.int .u32 x)) (hf : w.frozen? ⟨b, 34, none⟩ = false) :
    Calls Try.prog 95 #[.pointer (some ⟨b, 0, none⟩), .int .u32 536870920, .int .u32 v] w fun e w' => e = .returned (.bool true) ∧ w' = w.setCell ⟨b, 34, none⟩ (.int .u32 v) := by
  go_enter Try.func95, Try.ntmps95
  go_wp2
  go_ret
  exact ⟨rfl, rfl⟩
theorem c95_no (b : Nat) (a v : Int) (w : World) (h0 : (a == 536870912) = false) (h1 : (a == 536870916) = false) (h2 : (a == 536870920) = false) (h3 : (a == 536870928) = false) :
    Calls Try.prog 95 #[.pointer (some ⟨b, 0, none⟩), .int .u32 a, .int .u32 v] w fun e w' => e = .returned (.bool false) ∧ w' = w := by
  go_enter Try.func95, Try.ntmps95
  go_wp2
  go_ret
  exact ⟨rfl, rfl⟩
theorem c95_halt (b : Nat) (v x y : Int) (w : World) (hx : w.cell? ⟨b, 40, none⟩ = some (.int .i64 x)) (hf : w.frozen? ⟨b, 40, none⟩ = false)
    (hy : w.cell? ⟨b, 41, none⟩ = some (.int .u32 y)) (hg : w.frozen? ⟨b, 41, none⟩ = false) :
    Calls Try.prog 95 #[.pointer (some ⟨b, 0, none⟩), .int .u32 536870928, .int .u32 v] w fun e w' => e = .returned (.bool true) ∧ w' = (w.setCell ⟨b, 40, none⟩ (.int .i64 1)).setCell ⟨b, 41, none⟩ (.int .u32 v) := by
  go_enter Try.func95, Try.ntmps95
  go_wp2
  go_ret
  exact ⟨rfl, rfl⟩
theorem c86_b (b : Nat) (a v : Int) (ok : Bool) (R : World → Prop) (w : World)
    (H : Hid (Calls Try.prog 94 #[.pointer (some ⟨b, 0, none⟩), .int .u32 a, .int .i64 1, .int .u32 v] w fun e w' => e = .returned (.bool ok) ∧ R w')) :
    Calls Try.prog 86 #[.pointer (some ⟨b, 0, none⟩), .int .i64 16, .int .u32 a, .int .u32 v] w fun e w' => e = .returned (.bool ok) ∧ R w' := by
  go_enter Try.func86, Try.ntmps86
  go_wp2_with (first | (go_at_call 94; (with_reducible refine H.out.mono ?_); rintro e w' ⟨rfl, hr⟩; have HR := Lib.hid hr; clear hr))
  go_ret
  exact ⟨rfl, HR.out⟩
theorem c86_h (b : Nat) (a v : Int) (ok : Bool) (R : World → Prop) (w : World)
    (H : Hid (Calls Try.prog 94 #[.pointer (some ⟨b, 0, none⟩), .int .u32 a, .int .i64 2, .int .u32 v] w fun e w' => e = .returned (.bool ok) ∧ R w')) :
    Calls Try.prog 86 #[.pointer (some ⟨b, 0, none⟩), .int .i64 17, .int .u32 a, .int .u32 v] w fun e w' => e = .returned (.bool ok) ∧ R w' := by
  go_enter Try.func86, Try.ntmps86
  go_wp2_with (first | (go_at_call 94; (with_reducible refine H.out.mono ?_); rintro e w' ⟨rfl, hr⟩; have HR := Lib.hid hr; clear hr))
  go_ret
  exact ⟨rfl, HR.out⟩
theorem c86_w (b : Nat) (a v : Int) (ok : Bool) (R : World → Prop) (w : World) (h0 : (a == 536870912) = false) (h1 : (a == 536870916) = false) (h2 : (a == 536870920) = false) (h3 : (a == 536870928) = false)
    (H : Hid (Calls Try.prog 94 #[.pointer (some ⟨b, 0, none⟩), .int .u32 a, .int .i64 4, .int .u32 v] w fun e w' => e = .returned (.bool ok) ∧ R w')) :
    Calls Try.prog 86 #[.pointer (some ⟨b, 0, none⟩), .int .i64 18, .int .u32 a, .int .u32 v] w fun e w' => e = .returned (.bool ok) ∧ R w' := by
  have HT := Lib.hid (c95_no b a v w h0 h1 h2 h3)
  clear h0 h1 h2 h3
  go_enter Try.func86, Try.ntmps86
  go_wp2_with (first | (go_at_call 94; (with_reducible refine H.out.mono ?_); rintro e w' ⟨rfl, hr⟩; have HR := Lib.hid hr; clear hr) | (go_at_call 95; (with_reducible refine HT.out.mono ?_); rintro e w' ⟨rfl, rfl⟩))
  go_ret
  exact ⟨rfl, HR.out⟩
theorem c86_p (b : Nat) (a v : Int) (R : World → Prop) (w : World)
    (H : Hid (Calls Try.prog 95 #[.pointer (some ⟨b, 0, none⟩), .int .u32 a, .int .u32 v] w fun e w' => e = .returned (.bool true) ∧ R w')) :
    Calls Try.prog 86 #[.pointer (some ⟨b, 0, none⟩), .int .i64 18, .int .u32 a, .int .u32 v] w fun e w' => e = .returned (.bool true) ∧ R w' := by
  go_enter Try.func86, Try.ntmps86
  go_wp2_with (first | (go_at_call 95; (with_reducible refine H.out.mono ?_); rintro e w' ⟨rfl, hr⟩; have HR := Lib.hid hr; clear hr))
  go_ret
  exact ⟨rfl, HR.out⟩
end Go.Proofs.Ytipfefkddnogjaa
