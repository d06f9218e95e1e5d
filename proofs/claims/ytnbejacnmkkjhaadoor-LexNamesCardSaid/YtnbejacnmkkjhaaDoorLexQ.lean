/-
  Tokens (layer 7): keywords and names, the program's and the document's own.
-/
import Derived.Test.YtnbejacnmkkjhaaDoorLexP
namespace Go.Proofs.YtnbejacnmkkjhaaDoor
open Go.RowKit
set_option linter.unusedVariables false
set_option linter.unusedSimpArgs false
def wordA : Array Value := #[.string ⟨#[98, 114, 101, 97, 107]⟩, .string ⟨#[99, 97, 115, 101]⟩, .string ⟨#[99, 104, 97, 114]⟩, .string ⟨#[99, 111, 110, 116, 105, 110, 117, 101]⟩, .string ⟨#[100, 101, 102, 97, 117, 108, 116]⟩, .string ⟨#[100, 111]⟩, .string ⟨#[101, 108, 115, 101]⟩, .string ⟨#[102, 111, 114]⟩, .string ⟨#[105, 102]⟩, .string ⟨#[105, 110]⟩, .string ⟨#[105, 110, 116]⟩, .string ⟨#[111, 117, 116]⟩, .string ⟨#[114, 101, 116, 117, 114, 110]⟩, .string ⟨#[115, 105, 122, 101, 111, 102]⟩, .string ⟨#[115, 116, 114, 117, 99, 116]⟩, .string ⟨#[115, 119, 105, 116, 99, 104]⟩, .string ⟨#[118, 111, 105, 100]⟩, .string ⟨#[119, 104, 105, 108, 101]⟩]
def wordN (k : Nat) : List UInt8 := wordL.getD k []
theorem word_cells (k : Nat) (h : k < 18) : wordA[k]? = some (.string ⟨(wordN k).toArray⟩) := by
  match k, h with
  | 0, _ | 1, _ | 2, _ | 3, _ | 4, _ | 5, _ | 6, _ | 7, _ | 8, _ | 9, _ | 10, _ | 11, _ | 12, _ | 13, _ | 14, _ | 15, _ | 16, _ | 17, _ => rfl
  | n + 18, hn => exact absurd hn (by omega)
theorem word_at (l : List UInt8) {k : Nat} (hk : k < 18) (h : (wordN k == l) = true) : wordB l = true := by
  have e : wordN k = l := by simpa using h
  have hl : wordL.length = 18 := rfl
  unfold wordB
  rw [List.any_eq_true]
  refine ⟨wordN k, ?_, by rw [e]; simp⟩
  unfold wordN
  rw [List.getD_eq_getElem?_getD, List.getElem?_eq_getElem (by omega)]
  exact List.getElem_mem _
theorem word_none (l : List UInt8) (hn : ∀ j, j < 18 → (wordN j == l) = false) : wordB l = false := by
  have hl : wordL.length = 18 := rfl
  unfold wordB
  rw [List.any_eq_false]
  intro x hx
  obtain ⟨j, hj, rfl⟩ := List.mem_iff_getElem.1 hx
  have := hn j (by omega)
  unfold wordN at this
  rw [List.getD_eq_getElem?_getD, List.getElem?_eq_getElem (by omega)] at this
  intro e
  have e2 : l = wordL[j] := by simpa using e
  rw [e2] at this
  simp at this
set_option maxRecDepth 100000 in
set_option maxHeartbeats 4000000 in
theorem ref_word (s : ByteArray) (w : World) : Calls Tryd.prog 7 #[.string s] w fun e w' => e = .returned (.bool (wordB s.toList)) ∧ Fr (fun _ => False) w w' := by
  have HY := Lib.hid (fun (k : Nat) (hk : k < 18) => @word_at s.toList k hk)
  have HE := Lib.hid (word_none s.toList)
  go_enter Tryd.func7, Tryd.ntmps7
  go_wp2
  have HC : Hid (∀ k, k < 18 → (w.alloc (.cells wordA 9)).cell? ⟨w.heap.size, k, none⟩ = some (.string ⟨(wordN k).toArray⟩)) := Lib.hid (fun k hk => fcell w wordA 9 k _ (word_cells k hk))
  have HF : Hid (Fr (fun _ => False) w (w.alloc (.cells wordA 9))) := Lib.hid (fr_al (Fr.refl _ _) _)
  unfold wordA at HC HF
  generalize w.alloc (.cells _ 9) = W at *
  go_loop [4] (fun q => ∃ k : Nat, q = .int .i64 k ∧ k ≤ 18 ∧ Hid (∀ j, j < k → (wordN j == s.toList) = false)) (fun q => 18 - (intOf q).toNat)
  case atStart => exact ⟨0, rfl, by omega, Lib.hid (fun j hj => by omega)⟩
  case round =>
    obtain ⟨k, rfl, hk, HW⟩ := hrel
    by_cases hlt : k < 18
    · have t0 : (0 : Int) ≤ k := by omega
      have t1 : (k : Int) < 18 := by omega
      have kc := HC.out k hlt
      have hsz : (ByteArray.mk (wordN k).toArray).toList = wordN k := ByteArray.toList_mk _
      have HK := Lib.hid hlt
      cases hP : (wordN k == s.toList) with
      | true =>
        have HQ := Lib.hid (HY.out k hlt hP)
        go_wp2
        go_ret
        exact ⟨by rw [HQ.out]; rfl, HF.out⟩
      | false =>
        have HQ := Lib.hid hP
        go_wp2
        go_round
        case rel => exact ⟨k + 1, by go_num, by omega, Lib.hid (fun j hj => by
          by_cases hjk : j < k
          · exact HW.out j hjk
          · obtain rfl : j = k := by omega
            exact HQ.out)⟩
        case measure => simp [intOf]; omega
    · obtain rfl : k = 18 := by omega
      go_wp2
      go_ret
      exact ⟨by rw [HE.out HW.out]; rfl, HF.out⟩
/-- Is it a name? -/
def nameB (s : ByteArray) : Bool := decide (0 < s.size) && decide (s.size ≤ 31) && (match s.data.toList with | [] => false | c :: _ => letB (c.toNat : Int)) && spanN partB s.data.toList == s.size && !wordB s.toList
theorem nameB_no0 {s : ByteArray} (h : ¬ 0 < s.size) : nameB s = false := by simp [nameB, h]
theorem nameB_no1 {s : ByteArray} (h : ¬ s.size ≤ 31) : nameB s = false := by simp [nameB, h]
theorem nameB_of {s : ByteArray} (h0 : 0 < s.size) (h1 : s.size ≤ 31) : nameB s = (letB ((s[0]'h0).toNat : Int) && (spanN partB s.data.toList == s.size) && !wordB s.toList) := by
  have e : (match s.data.toList with | [] => false | c :: _ => letB (c.toNat : Int)) = letB ((s[0]'h0).toNat : Int) := by
    obtain ⟨⟨l⟩⟩ := s
    cases l with
    | nil => simp [str_size] at h0
    | cons c l => rfl
  unfold nameB
  rw [e, decide_eq_true h0, decide_eq_true h1]
  simp only [Bool.true_and]
theorem empty_no {s : ByteArray} (h : 0 < s.size) : (s.toList == ([] : List UInt8)) = false := by
  rw [ByteArray.toList_eq]
  have hl : s.data.toList.length = s.size := by cases s; rfl
  cases e : s.data.toList with
  | nil => rw [e] at hl; simp at hl; omega
  | cons => rfl
theorem empty_yes {s : ByteArray} (h : ¬ 0 < s.size) : (s.toList == ([] : List UInt8)) = true := by
  rw [ByteArray.toList_eq]
  have hl : s.data.toList.length = s.size := by cases s; rfl
  cases e : s.data.toList with
  | nil => rfl
  | cons => rw [e] at hl; simp at hl; omega
set_option maxRecDepth 100000 in
set_option maxHeartbeats 4000000 in
theorem lex_name (s : ByteArray) (hs : s.size ≤ maxLen) (w : World) : Calls Tryd.prog 8 #[.string s] w fun e w' => e = .returned (.bool (nameB s)) ∧ w = w' := by
  have HS : Hid (∀ w, Calls Tryd.prog 12 #[.string s, .func (.func 13) #[] #[]] w fun e w' => e = .returned (.int .i64 (spanN partB s.data.toList)) ∧ w = w') := Lib.hid (fun w => span_part s w hs)
  have HW := Lib.hid (c6 s)
  unfold maxLen at hs
  by_cases h0 : 0 < s.size
  · have g0 := empty_no h0
    have t0 : (0 : Int) < s.size := by omega
    have t2 : (1 : Int) ≤ s.size := by omega
    by_cases h1 : s.size ≤ 31
    · have t1 : (s.size : Int) ≤ 31 := by omega
      have HL := Lib.hid (c11 ((s[0]'h0).toNat : Int))
      have HN := Lib.hid (nameB_of h0 h1)
      generalize nameB s = b at *
      cases hl : letB ((s[0]'h0).toNat : Int)
      · rw [hl] at HL HN
        have HZ : Hid (b = false) := Lib.hid (by rw [HN.out]; rfl)
        clear hl HN
        go_enter Tryd.func8, Tryd.ntmps8
        go_wp2_with (go_at_call 11; (with_reducible refine (HL.out _).mono ?_); rintro e w' ⟨rfl, rfl⟩)
        go_ret
        exact ⟨by rw [HZ.out]; rfl, rfl⟩
      · rw [hl] at HL HN
        cases hsp : (spanN partB s.data.toList == s.size)
        · rw [hsp] at HN
          have HZ : Hid (b = false) := Lib.hid (by rw [HN.out]; rfl)
          have hx : ((spanN partB s.data.toList : Int) == (s.size : Int)) = false := by
            have : ¬ spanN partB s.data.toList = s.size := by simpa using hsp
            simp; omega
          generalize (spanN partB s.data.toList) = n at *
          clear hl HN hsp
          go_enter Tryd.func8, Tryd.ntmps8
          go_wp2_with first | (go_at_call 11; (with_reducible refine (HL.out _).mono ?_); rintro e w' ⟨rfl, rfl⟩) | (go_at_call 12; (with_reducible refine (HS.out _).mono ?_); rintro e w' ⟨rfl, rfl⟩)
          go_ret
          exact ⟨by rw [HZ.out]; rfl, rfl⟩
        · rw [hsp] at HN
          have HZ : Hid (b = !wordB s.toList) := Lib.hid (by rw [HN.out]; rfl)
          have hx : ((spanN partB s.data.toList : Int) == (s.size : Int)) = true := by
            have : spanN partB s.data.toList = s.size := by simpa using hsp
            simp; omega
          generalize (spanN partB s.data.toList) = n at *
          generalize wordB s.toList = wb at *
          clear hl HN hsp
          go_enter Tryd.func8, Tryd.ntmps8
          go_wp2_with first | (go_at_call 11; (with_reducible refine (HL.out _).mono ?_); rintro e w' ⟨rfl, rfl⟩) | (go_at_call 12; (with_reducible refine (HS.out _).mono ?_); rintro e w' ⟨rfl, rfl⟩) | (go_at_call 6; (with_reducible refine (HW.out _).mono ?_); rintro e w' ⟨rfl, rfl⟩)
          go_ret
          exact ⟨by rw [HZ.out]; rfl, rfl⟩
    · have t1 : ¬ (s.size : Int) ≤ 31 := by omega
      have HN := Lib.hid (nameB_no1 h1)
      clear h1
      go_enter Tryd.func8, Tryd.ntmps8
      go_wp2
      go_ret
      exact ⟨by rw [HN.out]; rfl, rfl⟩
  · have g0 := empty_yes h0
    have HN := Lib.hid (nameB_no0 h0)
    have hz : s.size = 0 := by omega
    clear h0
    go_enter Tryd.func8, Tryd.ntmps8
    go_wp2
    go_ret
    exact ⟨by rw [HN.out]; rfl, rfl⟩
set_option maxRecDepth 100000 in
set_option maxHeartbeats 4000000 in
theorem ref_name (s : ByteArray) (hs : s.size ≤ maxLen) (w : World) : Calls Tryd.prog 9 #[.string s] w fun e w' => e = .returned (.bool (nameB s)) ∧ Fr (fun _ => False) w w' := by
  have HS : Hid (∀ w, Calls Tryd.prog 15 #[.string s, .int .i64 0] w fun e w' => e = .returned (.int .i64 (spanN partB s.data.toList)) ∧ w = w') := Lib.hid (fun w => ref_run s w hs)
  have HW := Lib.hid (ref_word s)
  unfold maxLen at hs
  by_cases h0 : 0 < s.size
  · have g0 := empty_no h0
    have t0 : (0 : Int) < s.size := by omega
    have t2 : (1 : Int) ≤ s.size := by omega
    by_cases h1 : s.size ≤ 31
    · have t1 : (s.size : Int) ≤ 31 := by omega
      have HL := Lib.hid (c14 ((s[0]'h0).toNat : Int))
      have HN := Lib.hid (nameB_of h0 h1)
      generalize nameB s = b at *
      cases hl : letB ((s[0]'h0).toNat : Int)
      · rw [hl] at HL HN
        have HZ : Hid (b = false) := Lib.hid (by rw [HN.out]; rfl)
        clear hl HN
        go_enter Tryd.func9, Tryd.ntmps9
        go_wp2_with (go_at_call 14; (with_reducible refine (HL.out _).mono ?_); rintro e w' ⟨rfl, rfl⟩)
        go_ret
        exact ⟨by rw [HZ.out]; rfl, Fr.refl _ _⟩
      · rw [hl] at HL HN
        cases hsp : (spanN partB s.data.toList == s.size)
        · rw [hsp] at HN
          have HZ : Hid (b = false) := Lib.hid (by rw [HN.out]; rfl)
          have hx : ((spanN partB s.data.toList : Int) == (s.size : Int)) = false := by
            have : ¬ spanN partB s.data.toList = s.size := by simpa using hsp
            simp; omega
          generalize (spanN partB s.data.toList) = n at *
          clear hl HN hsp
          go_enter Tryd.func9, Tryd.ntmps9
          go_wp2_with first | (go_at_call 14; (with_reducible refine (HL.out _).mono ?_); rintro e w' ⟨rfl, rfl⟩) | (go_at_call 15; (with_reducible refine (HS.out _).mono ?_); rintro e w' ⟨rfl, rfl⟩)
          go_ret
          exact ⟨by rw [HZ.out]; rfl, Fr.refl _ _⟩
        · rw [hsp] at HN
          have HZ : Hid (b = !wordB s.toList) := Lib.hid (by rw [HN.out]; rfl)
          have hx : ((spanN partB s.data.toList : Int) == (s.size : Int)) = true := by
            have : spanN partB s.data.toList = s.size := by simpa using hsp
            simp; omega
          generalize (spanN partB s.data.toList) = n at *
          generalize wordB s.toList = wb at *
          clear hl HN hsp
          go_enter Tryd.func9, Tryd.ntmps9
          go_wp2_with first | (go_at_call 14; (with_reducible refine (HL.out _).mono ?_); rintro e w' ⟨rfl, rfl⟩) | (go_at_call 15; (with_reducible refine (HS.out _).mono ?_); rintro e w' ⟨rfl, rfl⟩) | (go_at_call 7; (with_reducible refine (HW.out _).mono ?_); rintro e w2 ⟨rfl, hf⟩; have HF := Lib.hid hf; clear hf)
          go_ret
          exact ⟨by rw [HZ.out]; rfl, HF.out⟩
    · have t1 : ¬ (s.size : Int) ≤ 31 := by omega
      have HN := Lib.hid (nameB_no1 h1)
      clear h1
      go_enter Tryd.func9, Tryd.ntmps9
      go_wp2
      go_ret
      exact ⟨by rw [HN.out]; rfl, Fr.refl _ _⟩
  · have g0 := empty_yes h0
    have HN := Lib.hid (nameB_no0 h0)
    have hz : s.size = 0 := by omega
    clear h0
    go_enter Tryd.func9, Tryd.ntmps9
    go_wp2
    go_ret
    exact ⟨by rw [HN.out]; rfl, Fr.refl _ _⟩
end Go.Proofs.YtnbejacnmkkjhaaDoor
