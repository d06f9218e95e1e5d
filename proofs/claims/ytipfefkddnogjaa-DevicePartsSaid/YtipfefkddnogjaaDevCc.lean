/-
  The contracts of advance, Fail and skip (layer 3).
-/
import Derived.Test.YtipfefkddnogjaaDevT
import Derived.Test.YtipfefkddnogjaaDevJ
import Derived.Deep.MidRow
import Derived.Great.BuildSlice
import Derived.Great.Walk
import Derived.Outline
namespace Go.Proofs.Ytipfefkddnogjaa
open Go.RowKit Go
set_option linter.unusedVariables false
set_option linter.unusedSimpArgs false
theorem c60_yes (b : Nat) (f0 f1 f2 f3 f4 n39 : Int) (q0 : 0 ≤ n39) (q1 : n39 ≤ 1000000) (S1 S2 : World → Prop) (w : World)
    (H79 : Hid (Calls Try.prog 79 #[.pointer (some ⟨b, 0, none⟩)] w fun e w' => e = .returned (.agg #[.int .i64 f0, .int .i64 f1, .int .i64 f2, .int .i64 f3, .int .i64 f4]) ∧ S1 w'))
    (H78 : Hid (∀ w1, S1 w1 → Calls Try.prog 78 #[.pointer (some ⟨b, 0, none⟩), .agg #[.int .i64 f0, .int .i64 f1, .int .i64 f2, .int .i64 f3, .int .i64 f4]] w1 fun e w' => e = .returned (.bool true) ∧ S2 w'))
    (HC : Hid (∀ w2, S2 w2 → w2.cell? ⟨b, 39, none⟩ = some (.int .i64 n39) ∧ w2.frozen? ⟨b, 39, none⟩ = false)) :
    Calls Try.prog 60 #[.pointer (some ⟨b, 0, none⟩)] w fun e w' => e = .returned (.tuple #[]) ∧ ∃ w2, S2 w2 ∧ w' = w2.setCell ⟨b, 39, none⟩ (.int .i64 (n39 + 1)) := by
  go_enter Try.func60, Try.ntmps60
  go_wp2_with (first
    | (go_at_call 79; (with_reducible refine H79.out.mono ?_); rintro e w1 ⟨rfl, h1⟩; have HS1 := Lib.hid h1; clear h1)
    | (go_at_call 78; (with_reducible refine (H78.out _ HS1.out).mono ?_); rintro e w2 ⟨rfl, h2⟩; obtain ⟨c39, g39⟩ := HC.out _ h2; have HS2 := Lib.hid h2; clear h2))
  exact bodyPost_ret (v := .tuple #[]) (results_none rfl _ _ _) rfl ⟨rfl, w2, HS2.out, rfl⟩
theorem c60_no (b : Nat) (f0 f1 f2 f3 f4 x : Int) (S1 S2 : World → Prop) (w : World)
    (H79 : Hid (Calls Try.prog 79 #[.pointer (some ⟨b, 0, none⟩)] w fun e w' => e = .returned (.agg #[.int .i64 f0, .int .i64 f1, .int .i64 f2, .int .i64 f3, .int .i64 f4]) ∧ S1 w'))
    (H78 : Hid (∀ w1, S1 w1 → Calls Try.prog 78 #[.pointer (some ⟨b, 0, none⟩), .agg #[.int .i64 f0, .int .i64 f1, .int .i64 f2, .int .i64 f3, .int .i64 f4]] w1 fun e w' => e = .returned (.bool false) ∧ S2 w'))
    (HC : Hid (∀ w2, S2 w2 → w2.cell? ⟨b, 40, none⟩ = some (.int .i64 x) ∧ w2.frozen? ⟨b, 40, none⟩ = false)) :
    Calls Try.prog 60 #[.pointer (some ⟨b, 0, none⟩)] w fun e w' => e = .returned (.tuple #[]) ∧ ∃ w2, S2 w2 ∧ w' = w2.setCell ⟨b, 40, none⟩ (.int .i64 2) := by
  go_enter Try.func60, Try.ntmps60
  go_wp2_with (first
    | (go_at_call 79; (with_reducible refine H79.out.mono ?_); rintro e w1 ⟨rfl, h1⟩; have HS1 := Lib.hid h1; clear h1)
    | (go_at_call 78; (with_reducible refine (H78.out _ HS1.out).mono ?_); rintro e w2 ⟨rfl, h2⟩; obtain ⟨c40, g40⟩ := HC.out _ h2; have HS2 := Lib.hid h2; clear h2))
  go_end0
  exact ⟨rfl, w2, HS2.out, rfl⟩
def zeros35 : List Value := List.replicate 35 (.int .u32 0)
theorem info93 : (Try.prog.info? 93).map (·.size) = some 35 := by kernel_rfl
set_option maxRecDepth 100000 in
theorem c55 (b : Nat) (w : World) (hx : w.cell? ⟨b, 40, none⟩ = some (.int .i64 0)) (ht : w.there b 0 35) :
    Calls Try.prog 55 #[.pointer (some ⟨b, 0, none⟩)] w fun e w' => e = .returned (.tuple #[]) ∧ w' = w.setCells b 0 zeros35 := by
  have HT := Lib.hid ht
  clear ht
  have h1 : zeros35.toArray.all (·.oneCell') = true := by decide +kernel
  have H1 := Lib.hid h1
  clear h1
  go_enter Try.func55, Try.ntmps55
  apply wp_seq_k; intro K0 hK0
  have HK := Lib.hid hK0
  clear hK0
  go_wp2
  refine HK.out _ _ ?_
  clear HK
  iterate 3 (first | (with_reducible apply wp_region_lit) | go_step)
  refine Great.wpList_readTo rfl (some 11) rfl (.pointer (some ⟨b, 0, none⟩)) rfl ?_
  refine wpList_buildTo rfl 93 _ rfl (some 12) rfl zeros35.toArray (by as_aux_lemma => kernel_rfl) ?_
  refine Great.wpList_readTo rfl (some 13) rfl (.pointer (some ⟨b, 0, none⟩)) (by go_simp) ?_
  refine Great.wpList_readTo rfl (some 14) rfl (.pointer (some ⟨b, 0, none⟩)) (by go_simp) ?_
  refine wpList_store_mid rfl 93 (.tmp 14) (.tmp 12) rfl b 0 zeros35.toArray (by rfl) (by rfl) HT.out info93 H1.out ?_
  refine wpList_nil ?_
  go_end0
  exact ⟨rfl, rfl⟩
end Go.Proofs.Ytipfefkddnogjaa
