/-
  Tokens (layer 7): the library's functions on strings, as far as the page's examples ask.
-/
import Derived.Test.YtoffbjfgledjfaaDoorLexB
import Derived.Laws.Externs
import Derived.Lib.Bytealg
import Derived.Laws.DeepStrings4
import Derived.Laws.Strings2
import Derived.KernelRfl
namespace Go.Proofs.YtoffbjfgledjfaaDoor
open Go.RowKit
set_option linter.unusedVariables false
set_option linter.unusedSimpArgs false
theorem str_size (l : List UInt8) : (ByteArray.mk l.toArray).size = l.length := rfl
def prefB (s t : ByteArray) : Bool := t.data.toList.isPrefixOf s.data.toList
theorem pref_eq (s t : ByteArray) (h : t.size ≤ s.size) : ((s.extract 0 t.size).toList == t.toList) = prefB s t := by
  unfold prefB
  obtain ⟨⟨a⟩⟩ := s
  obtain ⟨⟨b⟩⟩ := t
  rw [ByteArray.extract_mk, ByteArray.toList_mk, ByteArray.toList_mk, Bool.eq_iff_iff]
  simp only [List.drop_zero, Nat.sub_zero, List.isPrefixOf_iff_prefix, List.prefix_iff_eq_take, beq_iff_eq, str_size]
  exact ⟨fun e => e.symm, fun e => e.symm⟩
theorem pref_no (s t : ByteArray) (h : ¬ t.size ≤ s.size) : prefB s t = false := by
  unfold prefB
  have hl : s.data.toList.length = s.size := by cases s; rfl
  have hm : t.data.toList.length = t.size := by cases t; rfl
  cases e : t.data.toList.isPrefixOf s.data.toList with
  | false => rfl
  | true =>
    have := (List.isPrefixOf_iff_prefix.1 e).length_le
    omega
theorem c32 (s t : ByteArray) (w : World) : Calls Tryd.prog 32 #[.string s, .string t] w fun e w' => e = .returned (.bool (prefB s t)) ∧ w = w' := by
  by_cases h : t.size ≤ s.size
  · have HP := Lib.hid (pref_eq s t h)
    have t0 : (t.size : Int) ≤ s.size := by omega
    have t1 : (0 : Int) ≤ t.size := by omega
    clear h
    go_enter Tryd.func32, Tryd.ntmps32
    go_wp2
    go_ret
    exact ⟨by rw [← HP.out]; rfl, rfl⟩
  · have HP := Lib.hid (pref_no s t h)
    have t0 : ¬ (t.size : Int) ≤ s.size := by omega
    go_enter Tryd.func32, Tryd.ntmps32
    go_wp2
    go_ret
    exact ⟨by rw [HP.out]; rfl, rfl⟩
theorem c19 (s t : ByteArray) (w : World) : Calls Tryd.prog 19 #[.string s, .string t] w fun e w' => e = .returned (.bool (prefB s t)) ∧ w = w' := by
  have HC := Lib.hid (c32 s t w)
  go_enter Tryd.func19, Tryd.ntmps19
  go_wp2_with (go_at_call 32; (with_reducible refine (HC.out).mono ?_); rintro e w' ⟨rfl, rfl⟩)
  go_ret
  exact ⟨rfl, rfl⟩
theorem cutprefix_no' (s t : ByteArray) (h : prefB s t = false) (w : World) : Calls Tryd.prog 34 #[.string s, .string t] w fun e w' => e = .returned (.tuple #[.string s, .bool false]) ∧ w = w' := by
  have HC := Lib.hid (c32 s t w)
  rw [h] at HC
  clear h
  go_enter Tryd.func34, Tryd.ntmps34
  go_wp2_with (go_at_call 32; (with_reducible refine (HC.out).mono ?_); rintro e w' ⟨rfl, rfl⟩)
  exact bodyPost_ret (v := .tuple #[.string s, .bool false]) (by simp [results, Tryd.results34, go_sem]) rfl ⟨rfl, rfl⟩
theorem cutprefix_no (s t : ByteArray) (h : prefB s t = false) (w : World) : Calls Tryd.prog 21 #[.string s, .string t] w fun e w' => e = .returned (.tuple #[.string s, .bool false]) ∧ w = w' := by
  have HC := Lib.hid (cutprefix_no' s t h w)
  clear h
  go_enter Tryd.func21, Tryd.ntmps21
  go_wp2_with (go_at_call 34; (with_reducible refine (HC.out).mono ?_); rintro e w' ⟨rfl, rfl⟩)
  exact bodyPost_ret (v := .tuple #[.string s, .bool false]) (by simp [results, Tryd.results21, go_sem]) rfl ⟨rfl, rfl⟩
set_option maxRecDepth 100000 in
theorem index_byte (s : ByteArray) (c : Int) (w : World) : Calls Tryd.prog 43 #[.string s, .int .u8 c] w fun e w' => e = .returned (.int .i64 (Lib.indexByte s.data.toList c.toNat.toUInt8)) ∧ w = w' := by
  go_enter Tryd.func43, Tryd.ntmps43
  go_wp2
  rw [run_callFunc_extern Tryd.func49 (by kernel_rfl) (by kernel_rfl) (by kernel_rfl) (e := Extern.BytealgIndexByte.indexByte) (by kernel_rfl), Lib.run_indexByteString]
  simp only [Result.andThen]
  rw [Oper.upon_value]
  go_wp2
  go_ret
  exact ⟨rfl, rfl⟩
set_option maxHeartbeats 4000000 in
theorem index_lf (s : ByteArray) (hne : (([10] : List UInt8) == s.toList) = false) (w : World) : Calls Tryd.prog 35 #[.string s, .string ⟨#[10]⟩] w fun e w' => e = .returned (.int .i64 (Lib.indexByte s.data.toList 10)) ∧ w = w' := by
  have HC := Lib.hid (index_byte s 10 w)
  have e0 : Lib.indexByte s.data.toList ((10 : Int).toNat.toUInt8) = Lib.indexByte s.data.toList 10 := rfl
  rw [e0] at HC
  clear e0
  obtain ⟨m, hm⟩ : ∃ m, Lib.indexByte s.data.toList 10 = m := ⟨_, rfl⟩
  rw [hm] at HC ⊢
  clear hm
  go_enter Tryd.func35, Tryd.ntmps35
  go_wp2_with (go_at_call 43; (refine (HC.out).mono ?_); rintro e w' ⟨rfl, rfl⟩)
  go_ret
  exact ⟨rfl, rfl⟩
theorem cut_no' (s : ByteArray) (hne : (([10] : List UInt8) == s.toList) = false) (h : Lib.indexByte s.data.toList 10 = -1) (w : World) : Calls Tryd.prog 33 #[.string s, .string ⟨#[10]⟩] w fun e w' => e = .returned (.tuple #[.string s, .string ⟨#[]⟩, .bool false]) ∧ w = w' := by
  have HC := Lib.hid (index_lf s hne w)
  rw [h] at HC
  clear h
  go_enter Tryd.func33, Tryd.ntmps33
  go_wp2_with (go_at_call 35; (with_reducible refine (HC.out).mono ?_); rintro e w' ⟨rfl, rfl⟩)
  exact bodyPost_ret (v := .tuple #[.string s, .string ⟨#[]⟩, .bool false]) (by simp [results, Tryd.results33, go_sem]) rfl ⟨rfl, rfl⟩
theorem cut_no (s : ByteArray) (hne : (([10] : List UInt8) == s.toList) = false) (h : Lib.indexByte s.data.toList 10 = -1) (w : World) : Calls Tryd.prog 20 #[.string s, .string ⟨#[10]⟩] w fun e w' => e = .returned (.tuple #[.string s, .string ⟨#[]⟩, .bool false]) ∧ w = w' := by
  have HC := Lib.hid (cut_no' s hne h w)
  clear h
  go_enter Tryd.func20, Tryd.ntmps20
  go_wp2_with (go_at_call 33; (with_reducible refine (HC.out).mono ?_); rintro e w' ⟨rfl, rfl⟩)
  exact bodyPost_ret (v := .tuple #[.string s, .string ⟨#[]⟩, .bool false]) (by simp [results, Tryd.results20, go_sem]) rfl ⟨rfl, rfl⟩
theorem runs_on_no (s : ByteArray) (k : Nat) (hk : k < s.size) (h : partB ((s[k]'hk).toNat : Int) = false) (w : World) : Calls Tryd.prog 39 #[.string s, .int .i64 k] w fun e w' => e = .returned (.bool false) ∧ w = w' := by
  have HC := Lib.hid (c36 ((s[k]'hk).toNat : Int) w)
  rw [h] at HC
  have t0 : (0 : Int) ≤ k := by omega
  have t1 : (k : Int) < s.size := by omega
  clear h
  go_enter Tryd.func39, Tryd.ntmps39
  go_wp2_with (go_at_call 36; (with_reducible refine (HC.out).mono ?_); rintro e w' ⟨rfl, rfl⟩)
  go_ret
  exact ⟨rfl, rfl⟩
theorem runs_on_yes (s : ByteArray) (k : Nat) (hk : k < s.size) (h : partB ((s[k]'hk).toNat : Int) = true) (w : World) : Calls Tryd.prog 39 #[.string s, .int .i64 k] w fun e w' => e = .returned (.bool true) ∧ w = w' := by
  have HC := Lib.hid (c36 ((s[k]'hk).toNat : Int) w)
  rw [h] at HC
  have t0 : (0 : Int) ≤ k := by omega
  have t1 : (k : Int) < s.size := by omega
  clear h
  go_enter Tryd.func39, Tryd.ntmps39
  go_wp2_with (go_at_call 36; (with_reducible refine (HC.out).mono ?_); rintro e w' ⟨rfl, rfl⟩)
  go_ret
  exact ⟨rfl, rfl⟩
theorem runs_on_end (s : ByteArray) (k : Nat) (hk : s.size ≤ k) (w : World) : Calls Tryd.prog 39 #[.string s, .int .i64 k] w fun e w' => e = .returned (.bool false) ∧ w = w' := by
  have t1 : ¬ (k : Int) < s.size := by omega
  go_enter Tryd.func39, Tryd.ntmps39
  go_wp2
  go_ret
  exact ⟨rfl, rfl⟩
theorem c8 (w : World) : Calls Tryd.prog 8 #[] w fun e w' => e = .returned (.agg #[.int .i64 1, .int .i64 1]) ∧ Fr (fun _ => False) w w' := by
  go_enter Tryd.func8, Tryd.ntmps8
  go_wp2
  exact bodyPost_ret (v := .agg #[.int .i64 1, .int .i64 1]) (by simp [results, Tryd.results8, go_sem]) rfl ⟨rfl, fr_al (Fr.refl _ _) _⟩
end Go.Proofs.YtoffbjfgledjfaaDoor
