/-
  Items (layer 5): what makes them; whether one is valid; the inverse of a branch.
-/
import Derived.Test.YtnjlcimeaoedcaaQAsmM
import Derived.Test.YtnjlcimeaoedcaaRows
import Derived.Outline
import Derived.ProofKit
import Derived.WalkSpells
namespace Go.Proofs.Ytnjlcimeaoedcaa
open Go.RowKit
set_option linter.unusedVariables false
set_option linter.unusedSimpArgs false
theorem c38 (n : Int) (w : World) :
    Calls Try.prog 38 #[.int .i64 n] w fun e w' => e = .returned (.bool (labB n)) ∧ w = w' := by
  by_cases h : 0 ≤ n
  all_goals
    go_enter Try.func38, Try.ntmps38
    go_wp2
    go_ret
    exact ⟨ret_bool (by unfold labB; simp [h] <;> omega), rfl⟩
theorem c77 (n : Int) (h0 : 0 ≤ n) (h1 : n ≤ 4294967295) (w : World) :
    Calls Try.prog 77 #[.int .u32 n] w fun e w' => e = .returned (.int .i64 (sg n)) ∧ w = w' := by
  have S := Lib.hid (sg_wrap h0 h1)
  have S' := Lib.hid (sg_wrap32 h0 h1)
  go_enter Try.func77, Try.ntmps77
  go_wp2
  go_ret
  exact ⟨ret_int (by first | exact S.out | exact S'.out), rfl⟩
theorem c65 (rd n : Int) (h0 : 0 ≤ n) (h1 : n ≤ 4294967295) (w : World) :
    Calls Try.prog 65 #[.int .i64 rd, .int .u32 n] w fun e w' => e = .returned (.agg #[.int .i64 1, .int .i64 rd, .int .i64 0, .int .i64 0, .int .i64 (sg n)]) ∧ Grown w w' := by
  go_enter Try.func65, Try.ntmps65
  go_wp2_with (go_at_call 77; (with_reducible refine (c77 _ h0 h1 _).mono ?_); rintro e w' ⟨rfl, rfl⟩)
  exact bodyPost_ret (v := .agg #[.int .i64 1, .int .i64 rd, .int .i64 0, .int .i64 0, .int .i64 (sg n)]) (by simp [results, Try.results65, go_sem]) rfl ⟨rfl, (Grown.refl _).alloc _ _⟩
theorem c79 (rd r1 n : Int) (h0 : 0 ≤ n) (h1 : n ≤ 4294967295) (w : World) :
    Calls Try.prog 79 #[.int .i64 rd, .int .i64 r1, .int .u32 n] w fun e w' => e = .returned (.agg #[.int .i64 19, .int .i64 rd, .int .i64 r1, .int .i64 0, .int .i64 (sg n)]) ∧ Grown w w' := by
  go_enter Try.func79, Try.ntmps79
  go_wp2_with (go_at_call 77; (with_reducible refine (c77 _ h0 h1 _).mono ?_); rintro e w' ⟨rfl, rfl⟩)
  exact bodyPost_ret (v := .agg #[.int .i64 19, .int .i64 rd, .int .i64 r1, .int .i64 0, .int .i64 (sg n)]) (by simp [results, Try.results79, go_sem]) rfl ⟨rfl, (Grown.refl _).alloc _ _⟩
theorem c11 (op : Int) (w : World) :
    Calls Try.prog 11 #[.int .i64 op] w fun e w' => e = .returned (.int .i64 (contr op)) ∧ w = w' := by
  go_enter Try.func11, Try.ntmps11
  go_wp2
  all_goals go_ret
  all_goals exact ⟨ret_int (by unfold contr; simp_all), rfl⟩
theorem c14 (a : Int) (w : World) :
    Calls Try.prog 14 #[.int .i64 a] w fun e w' => e = .returned (.agg #[.int .i64 2, .int .i64 0, .int .i64 0, .int .i64 0, .int .i64 0, .int .i64 0, .int .i64 a]) ∧ Grown w w' := by
  go_enter Try.func14, Try.ntmps14
  go_wp2
  exact bodyPost_ret (v := .agg #[.int .i64 2, .int .i64 0, .int .i64 0, .int .i64 0, .int .i64 0, .int .i64 0, .int .i64 a]) (by simp [results, Try.results14, go_sem]) rfl ⟨rfl, (Grown.refl _).alloc _ _⟩
theorem c15 (a b c d e5 : Int) (w : World) :
    Calls Try.prog 15 #[.int .i64 a, .int .i64 b, .int .i64 c, .int .i64 d, .int .i64 e5] w fun e w' => e = .returned (.agg #[.int .i64 1, .int .i64 a, .int .i64 b, .int .i64 c, .int .i64 d, .int .i64 e5, .int .i64 0]) ∧ Grown w w' := by
  go_enter Try.func15, Try.ntmps15
  go_wp2
  exact bodyPost_ret (v := .agg #[.int .i64 1, .int .i64 a, .int .i64 b, .int .i64 c, .int .i64 d, .int .i64 e5, .int .i64 0]) (by simp [results, Try.results15, go_sem]) rfl ⟨rfl, (Grown.refl _).alloc _ _⟩
theorem c16 (a b c d : Int) (w : World) :
    Calls Try.prog 16 #[.int .i64 a, .int .i64 b, .int .i64 c, .int .i64 d] w fun e w' => e = .returned (.agg #[.int .i64 3, .int .i64 a, .int .i64 0, .int .i64 b, .int .i64 c, .int .i64 0, .int .i64 d]) ∧ Grown w w' := by
  go_enter Try.func16, Try.ntmps16
  go_wp2
  exact bodyPost_ret (v := .agg #[.int .i64 3, .int .i64 a, .int .i64 0, .int .i64 b, .int .i64 c, .int .i64 0, .int .i64 d]) (by simp [results, Try.results16, go_sem]) rfl ⟨rfl, (Grown.refl _).alloc _ _⟩
theorem c17 (a n : Int) (h0 : 0 ≤ n) (h1 : n ≤ 4294967295) (w : World) :
    Calls Try.prog 17 #[.int .i64 a, .int .u32 n] w fun e w' => e = .returned (.agg #[.int .i64 5, .int .i64 0, .int .i64 a, .int .i64 0, .int .i64 0, .int .i64 n, .int .i64 0]) ∧ Grown w w' := by
  go_enter Try.func17, Try.ntmps17
  go_wp2
  exact bodyPost_ret (v := .agg #[.int .i64 5, .int .i64 0, .int .i64 a, .int .i64 0, .int .i64 0, .int .i64 n, .int .i64 0]) (by simp [results, Try.results17, go_sem]) rfl ⟨rfl, (Grown.refl _).alloc _ _⟩
end Go.Proofs.Ytnjlcimeaoedcaa
