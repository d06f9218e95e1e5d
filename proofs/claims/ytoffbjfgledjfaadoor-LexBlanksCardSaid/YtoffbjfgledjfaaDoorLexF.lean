/-
  Tokens (layer 7): keywords; names; what a text begins with.
-/
import Derived.Test.YtoffbjfgledjfaaDoorLexD
import Derived.Test.YtoffbjfgledjfaaDoorLexE
namespace Go.Proofs.YtoffbjfgledjfaaDoor
open Go.RowKit
set_option linter.unusedVariables false
set_option linter.unusedSimpArgs false
def wordL : List (List UInt8) := [[98, 114, 101, 97, 107], [99, 97, 115, 101], [99, 104, 97, 114], [99, 111, 110, 116, 105, 110, 117, 101], [100, 101, 102, 97, 117, 108, 116], [100, 111], [101, 108, 115, 101], [102, 111, 114], [105, 102], [105, 110], [105, 110, 116], [111, 117, 116], [114, 101, 116, 117, 114, 110], [115, 105, 122, 101, 111, 102], [115, 116, 114, 117, 99, 116], [115, 119, 105, 116, 99, 104], [118, 111, 105, 100], [119, 104, 105, 108, 101]]
def wordB (l : List UInt8) : Bool := wordL.any (fun t => l == t)
theorem word_0 : wordB [98, 114, 101, 97, 107] = true := rfl
theorem word_1 : wordB [99, 97, 115, 101] = true := rfl
theorem word_2 : wordB [99, 104, 97, 114] = true := rfl
theorem word_3 : wordB [99, 111, 110, 116, 105, 110, 117, 101] = true := rfl
theorem word_4 : wordB [100, 101, 102, 97, 117, 108, 116] = true := rfl
theorem word_5 : wordB [100, 111] = true := rfl
theorem word_6 : wordB [101, 108, 115, 101] = true := rfl
theorem word_7 : wordB [102, 111, 114] = true := rfl
theorem word_8 : wordB [105, 102] = true := rfl
theorem word_9 : wordB [105, 110] = true := rfl
theorem word_10 : wordB [105, 110, 116] = true := rfl
theorem word_11 : wordB [111, 117, 116] = true := rfl
theorem word_12 : wordB [114, 101, 116, 117, 114, 110] = true := rfl
theorem word_13 : wordB [115, 105, 122, 101, 111, 102] = true := rfl
theorem word_14 : wordB [115, 116, 114, 117, 99, 116] = true := rfl
theorem word_15 : wordB [115, 119, 105, 116, 99, 104] = true := rfl
theorem word_16 : wordB [118, 111, 105, 100] = true := rfl
theorem word_17 : wordB [119, 104, 105, 108, 101] = true := rfl
theorem word_no {l : List UInt8} (h0 : (l == [98, 114, 101, 97, 107]) = false) (h1 : (l == [99, 97, 115, 101]) = false) (h2 : (l == [99, 104, 97, 114]) = false) (h3 : (l == [99, 111, 110, 116, 105, 110, 117, 101]) = false) (h4 : (l == [100, 101, 102, 97, 117, 108, 116]) = false) (h5 : (l == [100, 111]) = false) (h6 : (l == [101, 108, 115, 101]) = false) (h7 : (l == [102, 111, 114]) = false) (h8 : (l == [105, 102]) = false) (h9 : (l == [105, 110]) = false) (h10 : (l == [105, 110, 116]) = false) (h11 : (l == [111, 117, 116]) = false) (h12 : (l == [114, 101, 116, 117, 114, 110]) = false) (h13 : (l == [115, 105, 122, 101, 111, 102]) = false) (h14 : (l == [115, 116, 114, 117, 99, 116]) = false) (h15 : (l == [115, 119, 105, 116, 99, 104]) = false) (h16 : (l == [118, 111, 105, 100]) = false) (h17 : (l == [119, 104, 105, 108, 101]) = false) : wordB l = false := by
  simp only [wordB, wordL, List.any_cons, List.any_nil, h0, h1, h2, h3, h4, h5, h6, h7, h8, h9, h10, h11, h12, h13, h14, h15, h16, h17, Bool.or_false]
set_option maxHeartbeats 4000000 in
theorem c37 (s : ByteArray) (w : World) : Calls Tryd.prog 37 #[.string s] w fun e w' => e = .returned (.bool (wordB s.toList)) ∧ w = w' := by
  generalize hl : s.toList = l
  by_cases e0 : l = [98, 114, 101, 97, 107]
  · subst e0
    go_enter Tryd.func37, Tryd.ntmps37
    go_wp2
    go_ret
    exact ⟨rfl, rfl⟩
  have h0 : (l == [98, 114, 101, 97, 107]) = false := by simpa using e0
  clear e0
  by_cases e1 : l = [99, 97, 115, 101]
  · subst e1
    go_enter Tryd.func37, Tryd.ntmps37
    go_wp2
    go_ret
    exact ⟨rfl, rfl⟩
  have h1 : (l == [99, 97, 115, 101]) = false := by simpa using e1
  clear e1
  by_cases e2 : l = [99, 104, 97, 114]
  · subst e2
    go_enter Tryd.func37, Tryd.ntmps37
    go_wp2
    go_ret
    exact ⟨rfl, rfl⟩
  have h2 : (l == [99, 104, 97, 114]) = false := by simpa using e2
  clear e2
  by_cases e3 : l = [99, 111, 110, 116, 105, 110, 117, 101]
  · subst e3
    go_enter Tryd.func37, Tryd.ntmps37
    go_wp2
    go_ret
    exact ⟨rfl, rfl⟩
  have h3 : (l == [99, 111, 110, 116, 105, 110, 117, 101]) = false := by simpa using e3
  clear e3
  by_cases e4 : l = [100, 101, 102, 97, 117, 108, 116]
  · subst e4
    go_enter Tryd.func37, Tryd.ntmps37
    go_wp2
    go_ret
    exact ⟨rfl, rfl⟩
  have h4 : (l == [100, 101, 102, 97, 117, 108, 116]) = false := by simpa using e4
  clear e4
  by_cases e5 : l = [100, 111]
  · subst e5
    go_enter Tryd.func37, Tryd.ntmps37
    go_wp2
    go_ret
    exact ⟨rfl, rfl⟩
  have h5 : (l == [100, 111]) = false := by simpa using e5
  clear e5
  by_cases e6 : l = [101, 108, 115, 101]
  · subst e6
    go_enter Tryd.func37, Tryd.ntmps37
    go_wp2
    go_ret
    exact ⟨rfl, rfl⟩
  have h6 : (l == [101, 108, 115, 101]) = false := by simpa using e6
  clear e6
  by_cases e7 : l = [102, 111, 114]
  · subst e7
    go_enter Tryd.func37, Tryd.ntmps37
    go_wp2
    go_ret
    exact ⟨rfl, rfl⟩
  have h7 : (l == [102, 111, 114]) = false := by simpa using e7
  clear e7
  by_cases e8 : l = [105, 102]
  · subst e8
    go_enter Tryd.func37, Tryd.ntmps37
    go_wp2
    go_ret
    exact ⟨rfl, rfl⟩
  have h8 : (l == [105, 102]) = false := by simpa using e8
  clear e8
  by_cases e9 : l = [105, 110]
  · subst e9
    go_enter Tryd.func37, Tryd.ntmps37
    go_wp2
    go_ret
    exact ⟨rfl, rfl⟩
  have h9 : (l == [105, 110]) = false := by simpa using e9
  clear e9
  by_cases e10 : l = [105, 110, 116]
  · subst e10
    go_enter Tryd.func37, Tryd.ntmps37
    go_wp2
    go_ret
    exact ⟨rfl, rfl⟩
  have h10 : (l == [105, 110, 116]) = false := by simpa using e10
  clear e10
  by_cases e11 : l = [111, 117, 116]
  · subst e11
    go_enter Tryd.func37, Tryd.ntmps37
    go_wp2
    go_ret
    exact ⟨rfl, rfl⟩
  have h11 : (l == [111, 117, 116]) = false := by simpa using e11
  clear e11
  by_cases e12 : l = [114, 101, 116, 117, 114, 110]
  · subst e12
    go_enter Tryd.func37, Tryd.ntmps37
    go_wp2
    go_ret
    exact ⟨rfl, rfl⟩
  have h12 : (l == [114, 101, 116, 117, 114, 110]) = false := by simpa using e12
  clear e12
  by_cases e13 : l = [115, 105, 122, 101, 111, 102]
  · subst e13
    go_enter Tryd.func37, Tryd.ntmps37
    go_wp2
    go_ret
    exact ⟨rfl, rfl⟩
  have h13 : (l == [115, 105, 122, 101, 111, 102]) = false := by simpa using e13
  clear e13
  by_cases e14 : l = [115, 116, 114, 117, 99, 116]
  · subst e14
    go_enter Tryd.func37, Tryd.ntmps37
    go_wp2
    go_ret
    exact ⟨rfl, rfl⟩
  have h14 : (l == [115, 116, 114, 117, 99, 116]) = false := by simpa using e14
  clear e14
  by_cases e15 : l = [115, 119, 105, 116, 99, 104]
  · subst e15
    go_enter Tryd.func37, Tryd.ntmps37
    go_wp2
    go_ret
    exact ⟨rfl, rfl⟩
  have h15 : (l == [115, 119, 105, 116, 99, 104]) = false := by simpa using e15
  clear e15
  by_cases e16 : l = [118, 111, 105, 100]
  · subst e16
    go_enter Tryd.func37, Tryd.ntmps37
    go_wp2
    go_ret
    exact ⟨rfl, rfl⟩
  have h16 : (l == [118, 111, 105, 100]) = false := by simpa using e16
  clear e16
  by_cases e17 : l = [119, 104, 105, 108, 101]
  · subst e17
    go_enter Tryd.func37, Tryd.ntmps37
    go_wp2
    go_ret
    exact ⟨rfl, rfl⟩
  have h17 : (l == [119, 104, 105, 108, 101]) = false := by simpa using e17
  clear e17
  have HN := Lib.hid (word_no h0 h1 h2 h3 h4 h5 h6 h7 h8 h9 h10 h11 h12 h13 h14 h15 h16 h17)
  go_enter Tryd.func37, Tryd.ntmps37
  go_wp2
  go_ret
  exact ⟨by rw [HN.out]; rfl, rfl⟩
theorem ext_take (s : ByteArray) (n : Nat) : s.extract 0 n = ⟨(s.data.toList.take n).toArray⟩ := by
  obtain ⟨⟨l⟩⟩ := s
  rw [ByteArray.extract_mk]; simp
def nameN (s : ByteArray) : Nat := spanN partB s.data.toList
def nameT (s : ByteArray) : List UInt8 := s.data.toList.take (nameN s)
theorem nameT_toList (s : ByteArray) : (s.extract 0 (nameN s)).toList = nameT s := by rw [ext_take, ByteArray.toList_mk]; rfl
theorem nameT_len (s : ByteArray) : (s.extract 0 (nameN s)).size = nameN s := by
  have hl : s.data.toList.length = s.size := by cases s; rfl
  have := spanN_le partB s.data.toList
  rw [ext_take, str_size, List.length_take]; unfold nameN; omega
set_option maxHeartbeats 4000000 in
/-- A name or a keyword. -/
theorem name_any (s : ByteArray) (hs : s.size ≤ maxLen) (h31 : nameN s ≤ 31) (w : World) : Calls Tryd.prog 26 #[.string s] w (TokP (if wordB (nameT s) then 2 else 1) (nameT s) 0 0 w) := by
  have hl : s.data.toList.length = s.size := by cases s; rfl
  have hle : nameN s ≤ s.size := by have := spanN_le partB s.data.toList; unfold nameN; omega
  have HS : Hid (∀ w, Calls Tryd.prog 23 #[.string s, .func (.func 36) #[] #[]] w fun e w' => e = .returned (.int .i64 (nameN s)) ∧ w = w') := Lib.hid (fun w => span_part s w hs)
  have HW : Hid (∀ w, Calls Tryd.prog 37 #[.string (s.extract 0 (nameN s))] w fun e w' => e = .returned (.bool (wordB (nameT s))) ∧ w = w') := Lib.hid (fun w => by rw [← nameT_toList s]; exact c37 _ w)
  have hz := nameT_len s
  have HX : Hid (s.extract 0 (nameN s) = ⟨(nameT s).toArray⟩) := Lib.hid (ext_take s _)
  generalize nameN s = n at *
  generalize nameT s = t at *
  have t0 : (0 : Int) ≤ n := by omega
  have t1 : (n : Int) ≤ s.size := by omega
  have t2 : (n : Int) ≤ 31 := by omega
  have t3 : ¬ (31 : Int) < n := by omega
  clear hl hle h31 hs
  cases hb : wordB t
  all_goals
    rw [hb] at HW
    clear hb
    go_enter Tryd.func26, Tryd.ntmps26
    go_wp2_with first | (go_at_call 23; (with_reducible refine (HS.out _).mono ?_); rintro e w' ⟨rfl, rfl⟩) | (go_at_call 37; (with_reducible refine (HW.out _).mono ?_); rintro e w' ⟨rfl, rfl⟩)
  · exact bodyPost_ret (v := .tuple #[.agg #[.int .i64 1, .string (s.extract 0 n), .int .u32 0, .int .i64 0, .int .i64 0], .int .i64 0]) (by simp [results, Tryd.results26, go_sem]) rfl ⟨by rw [HX.out], fr_al (Fr.refl _ _) _⟩
  · exact bodyPost_ret (v := .tuple #[.agg #[.int .i64 2, .string (s.extract 0 n), .int .u32 0, .int .i64 0, .int .i64 0], .int .i64 0]) (by simp [results, Tryd.results26, go_sem]) rfl ⟨by rw [HX.out], fr_al (Fr.refl _ _) _⟩
end Go.Proofs.YtoffbjfgledjfaaDoor
