/-
  Tokens (layer 7): the page's numbers and its character.
-/
import Derived.Test.YtoffbjfgledjfaaDoorLexG
namespace Go.Proofs.YtoffbjfgledjfaaDoor
open Go.RowKit
set_option linter.unusedVariables false
set_option linter.unusedSimpArgs false
def tHex : ByteArray := ⟨#[48, 120, 49, 70, 59, 32, 47, 47, 32, 101, 110, 100]⟩
def tOct : ByteArray := ⟨#[48, 56, 97]⟩
def tChr : ByteArray := ⟨#[39, 97, 39]⟩
set_option maxRecDepth 100000 in
set_option maxHeartbeats 4000000 in
theorem number_hex (w : World) : Calls Tryd.prog 28 #[.string tHex] w (TokP 3 [48, 120, 49, 70] 31 0 w) := by
  obtain ⟨s, hs⟩ : ∃ s, tHex = s := ⟨_, rfl⟩
  have hz : s.size = 12 := by rw [← hs]; rfl
  obtain ⟨r, hr⟩ : ∃ r, s.extract 2 12 = r := ⟨_, rfl⟩
  have hre : r = ⟨#[49, 70, 59, 32, 47, 47, 32, 101, 110, 100]⟩ := by rw [← hr, ← hs]; exact ByteArray.extract_mk _ 2 12
  have hx1 : s.extract 0 1 = ⟨#[48]⟩ := by rw [← hs]; exact ByteArray.extract_mk _ 0 1
  have hx4 : s.extract 0 4 = ⟨#[48, 120, 49, 70]⟩ := by rw [← hs]; exact ByteArray.extract_mk _ 0 4
  have hx5 : (ByteArray.mk #[48, 120, 49, 70]).extract 2 4 = ⟨#[49, 70]⟩ := ByteArray.extract_mk _ 2 4
  have HS : Hid (∀ w, Calls Tryd.prog 23 #[.string s, .func (.func 27) #[] #[]] w fun e w' => e = .returned (.int .i64 1) ∧ w = w') := Lib.hid (fun w => by
    have := span_digit s w (by rw [hz]; decide)
    rw [← hs] at this ⊢; exact this)
  have HX : Hid (∀ w, Calls Tryd.prog 23 #[.string r, .func (.func 38) #[] #[]] w fun e w' => e = .returned (.int .i64 2) ∧ w = w') := Lib.hid (fun w => by
    have := span_hex r w (by rw [hre]; decide)
    rw [hre] at this ⊢; exact this)
  have HP : Hid (∀ w, Calls Tryd.prog 19 #[.string s, .string ⟨#[48, 120]⟩] w fun e w' => e = .returned (.bool true) ∧ w = w') := Lib.hid (fun w => by
    have := c19 s ⟨#[48, 120]⟩ w
    rw [← hs] at this ⊢; exact this)
  have HR : Hid (∀ w, Calls Tryd.prog 39 #[.string s, .int .i64 4] w fun e w' => e = .returned (.bool false) ∧ w = w') := Lib.hid (fun w => by
    have := runs_on_no tHex 4 (by decide) (by decide) w
    rw [hs] at this; exact this)
  rw [hs]
  clear hre hs
  go_enter Tryd.func28, Tryd.ntmps28
  go_wp2_with first | (go_at_call 23; first | ((with_reducible refine (HS.out _).mono ?_); rintro e w' ⟨rfl, rfl⟩) | ((with_reducible refine (HX.out _).mono ?_); rintro e w' ⟨rfl, rfl⟩)) | (go_at_call 19; (with_reducible refine (HP.out _).mono ?_); rintro e w' ⟨rfl, rfl⟩) | (go_at_call 39; (with_reducible refine (HR.out _).mono ?_); rintro e w' ⟨rfl, rfl⟩) | (go_at_call 40; (with_reducible refine (parse_1F' _).mono ?_); rintro e w2 ⟨rfl, hf⟩; have HF := Lib.hid hf; obtain ⟨⟨b0, k0⟩, f0⟩ := blk5 hf 0 (by decide); obtain ⟨⟨b1, k1⟩, f1⟩ := blk5 hf 1 (by decide); obtain ⟨⟨b2, k2⟩, f2⟩ := blk5 hf 2 (by decide); obtain ⟨⟨b3, k3⟩, f3⟩ := blk5 hf 3 (by decide); obtain ⟨⟨b4, k4⟩, f4⟩ := blk5 hf 4 (by decide); clear hf)
  exact bodyPost_ret (v := .tuple #[.agg #[.int .i64 3, .string ⟨#[48, 120, 49, 70]⟩, .int .u32 31, .int .i64 0, .int .i64 0], .int .i64 0]) (by simp [results, Tryd.results28, go_sem, set5' k0 k1 k2 k3 k4]) rfl ⟨rfl, fr_set5 ((fr_al (Fr.refl _ _) _).trans HF.out) (Nat.le_refl _) _ _ _ _ _⟩
set_option maxRecDepth 100000 in
set_option maxHeartbeats 4000000 in
theorem number_oct (w : World) : Calls Tryd.prog 28 #[.string tOct] w (TokP 0 [] 0 3 w) := by
  obtain ⟨s, hs⟩ : ∃ s, tOct = s := ⟨_, rfl⟩
  have hz : s.size = 3 := by rw [← hs]; rfl
  have hx1 : s.extract 0 2 = ⟨#[48, 56]⟩ := by rw [← hs]; exact ByteArray.extract_mk _ 0 2
  have HS : Hid (∀ w, Calls Tryd.prog 23 #[.string s, .func (.func 27) #[] #[]] w fun e w' => e = .returned (.int .i64 2) ∧ w = w') := Lib.hid (fun w => by
    have := span_digit s w (by rw [hz]; decide)
    rw [← hs] at this ⊢; exact this)
  have HP : Hid (∀ w, Calls Tryd.prog 19 #[.string s, .string ⟨#[48, 120]⟩] w fun e w' => e = .returned (.bool false) ∧ w = w') := Lib.hid (fun w => by
    have := c19 s ⟨#[48, 120]⟩ w
    rw [← hs] at this ⊢; exact this)
  have HP2 : Hid (∀ w, Calls Tryd.prog 19 #[.string s, .string ⟨#[48, 88]⟩] w fun e w' => e = .returned (.bool false) ∧ w = w') := Lib.hid (fun w => by
    have := c19 s ⟨#[48, 88]⟩ w
    rw [← hs] at this ⊢; exact this)
  have HR : Hid (∀ w, Calls Tryd.prog 39 #[.string s, .int .i64 2] w fun e w' => e = .returned (.bool true) ∧ w = w') := Lib.hid (fun w => by
    have := runs_on_yes tOct 2 (by decide) (by decide) w
    rw [hs] at this; exact this)
  rw [hs]
  clear hs
  go_enter Tryd.func28, Tryd.ntmps28
  go_wp2_with first | (go_at_call 23; ((with_reducible refine (HS.out _).mono ?_); rintro e w' ⟨rfl, rfl⟩)) | (go_at_call 19; first | ((with_reducible refine (HP.out _).mono ?_); rintro e w' ⟨rfl, rfl⟩) | ((with_reducible refine (HP2.out _).mono ?_); rintro e w' ⟨rfl, rfl⟩)) | (go_at_call 39; (with_reducible refine (HR.out _).mono ?_); rintro e w' ⟨rfl, rfl⟩)
  exact bodyPost_ret (v := .tuple #[.agg #[.int .i64 0, .string ⟨#[]⟩, .int .u32 0, .int .i64 0, .int .i64 0], .int .i64 3]) (by simp [results, Tryd.results28, go_sem]) rfl ⟨rfl, fr_al (Fr.refl _ _) _⟩
theorem plain_a (w : World) : Calls Tryd.prog 41 #[.int .u8 97] w fun e w' => e = .returned (.tuple #[.int .u32 97, .bool true]) ∧ w = w' := by
  go_enter Tryd.func41, Tryd.ntmps41
  go_wp2
  exact bodyPost_ret (v := .tuple #[.int .u32 97, .bool true]) (by simp [results, Tryd.results41, go_sem]) rfl ⟨rfl, rfl⟩
set_option maxRecDepth 100000 in
set_option maxHeartbeats 4000000 in
theorem character_a (w : World) : Calls Tryd.prog 29 #[.string tChr] w (TokP 3 [39, 97, 39] 97 0 w) := by
  obtain ⟨s, hs⟩ : ∃ s, tChr = s := ⟨_, rfl⟩
  have hz : s.size = 3 := by rw [← hs]; rfl
  have hx3 : s.extract 0 3 = ⟨#[39, 97, 39]⟩ := by rw [← hs]; exact ByteArray.extract_mk _ 0 3
  have q1 : ∀ h : 1 < s.size, (((s[1]'h).toNat : Nat) : Int) = 97 := by subst hs; intro h; rfl
  have q2 : ∀ h : 2 < s.size, (((s[2]'h).toNat : Nat) : Int) = 39 := by subst hs; intro h; rfl
  have HR : Hid (∀ w, Calls Tryd.prog 39 #[.string s, .int .i64 3] w fun e w' => e = .returned (.bool false) ∧ w = w') := Lib.hid (fun w => by
    have := runs_on_end tChr 3 (by decide) w
    rw [hs] at this; exact this)
  have p1 : 1 < s.size := by omega
  have p2 : 2 < s.size := by omega
  have e1 := q1 p1
  have e2 := q2 p2
  rw [hs]
  clear q1 q2 hs
  go_enter Tryd.func29, Tryd.ntmps29
  go_wp2_with first | (go_at_call 39; (with_reducible refine (HR.out _).mono ?_); rintro e w' ⟨rfl, rfl⟩) | (go_at_call 41; (with_reducible refine (plain_a _).mono ?_); rintro e w' ⟨rfl, rfl⟩)
  exact bodyPost_ret (v := .tuple #[.agg #[.int .i64 3, .string ⟨#[39, 97, 39]⟩, .int .u32 97, .int .i64 0, .int .i64 0], .int .i64 0]) (by simp [results, Tryd.results29, go_sem]) rfl ⟨rfl, fr_al (Fr.refl _ _) _⟩
end Go.Proofs.YtoffbjfgledjfaaDoor
