/-
  Tokens (layer 7): the page's examples, token by token.
-/
import Derived.Test.YtoffbjfgledjfaaDoorLexN
namespace Go.Proofs.YtoffbjfgledjfaaDoor
open Go.RowKit
set_option linter.unusedVariables false
set_option linter.unusedSimpArgs false
set_option maxRecDepth 100000
def rs0 : ByteArray := ⟨#[97, 43, 61, 48, 120, 49, 70, 59, 32, 47, 47, 32, 101, 110, 100]⟩
def rs1 : ByteArray := ⟨#[43, 61, 48, 120, 49, 70, 59, 32, 47, 47, 32, 101, 110, 100]⟩
def rs2 : ByteArray := ⟨#[48, 120, 49, 70, 59, 32, 47, 47, 32, 101, 110, 100]⟩
def rs3 : ByteArray := ⟨#[59, 32, 47, 47, 32, 101, 110, 100]⟩
def rs4 : ByteArray := ⟨#[32, 47, 47, 32, 101, 110, 100]⟩
def rs5 : ByteArray := ⟨#[47, 47, 32, 101, 110, 100]⟩
theorem name_at (s : ByteArray) (hs : s.size ≤ maxLen) (t : List UInt8) (ht : nameT s = t) (h31 : nameN s ≤ 31) (hb : wordB t = false) (w : World) : Calls Tryd.prog 26 #[.string s] w (TokP 1 t 0 0 w) := by
  have := name_any s hs h31 w
  rw [ht, hb] at this
  exact this
theorem symbol_at (s : ByteArray) (t : List UInt8) (ht : symF s.data.toList = some t) (w : World) : Calls Tryd.prog 30 #[.string s] w (TokP 4 t 0 0 w) := by
  refine (symbol_any s w).mono fun e w' h => ?_
  unfold SymP at h
  rw [ht] at h
  exact h
theorem blank_at (s : ByteArray) (n : Nat) (hs : s.size ≤ maxLen) (h1 : prefB s ⟨#[47, 47]⟩ = false) (h2 : prefB s ⟨#[47, 42]⟩ = false) (hn : spanN blankB s.data.toList = n) (w : World) :
    Calls Tryd.prog 16 #[.string s] w fun e w' => e = .returned (.tuple #[.int .i64 n, .int .i64 0]) ∧ w = w' := by
  rw [← hn]; exact blank_plain s hs h1 h2 w
theorem tk0 (w : World) : Calls Tryd.prog 17 #[.string rs0] w (TokP 1 [97] 0 0 w) :=
  token_let rs0 (by decide) (by decide) 1 [97] 0 0 (fun w => name_at rs0 (by decide) [97] (by decide) (by decide) (by decide) w) w
theorem tk1 (w : World) : Calls Tryd.prog 17 #[.string rs1] w (TokP 4 [43, 61] 0 0 w) :=
  token_sym rs1 (by decide) (by decide) (by decide) (by decide) 4 [43, 61] 0 0 (fun w => symbol_at rs1 [43, 61] (by decide) w) w
theorem tk2 (w : World) : Calls Tryd.prog 17 #[.string rs2] w (TokP 3 [48, 120, 49, 70] 31 0 w) :=
  token_dig rs2 (by decide) (by decide) (by decide) 3 [48, 120, 49, 70] 31 0 (fun w => number_hex w) w
theorem tk3 (w : World) : Calls Tryd.prog 17 #[.string rs3] w (TokP 4 [59] 0 0 w) :=
  token_sym rs3 (by decide) (by decide) (by decide) (by decide) 4 [59] 0 0 (fun w => symbol_at rs3 [59] (by decide) w) w
theorem tkC (w : World) : Calls Tryd.prog 17 #[.string tChr] w (TokP 3 [39, 97, 39] 97 0 w) :=
  token_chr tChr (by decide) (by decide) (by decide) (by decide) 3 [39, 97, 39] 97 0 (fun w => character_a w) w
theorem tkO (w : World) : Calls Tryd.prog 17 #[.string tOct] w (TokP 0 [] 0 3 w) :=
  token_dig tOct (by decide) (by decide) (by decide) 0 [] 0 3 (fun w => number_oct w) w
theorem nx0 (r p q : Nat) (W : World) (h : SSt r p q rs0 1 1 W) : Calls Tryd.prog 15 #[.pointer (some ⟨r, 0, none⟩), .pointer (some ⟨p, 0, none⟩), .pointer (some ⟨q, 0, none⟩)] W fun e w' => e = .returned (.tuple #[.agg #[.int .i64 1, .string ⟨#[97]⟩, .int .u32 0, .int .i64 1, .int .i64 1], .int .i64 0]) ∧ SSt r p q rs1 1 2 w' ∧ Fr (fun k => k = r ∨ k = p) W w' :=
  next_tok r p q rs0 1 1 W h (by decide) (by decide) (by decide) (by rw [ByteArray.toList_eq]; decide) (fun w => blank_at rs0 0 (by decide) (by decide) (by decide) (by decide) w) 1 [97] 0 tk0 (by decide) (by decide)
theorem nx1 (r p q : Nat) (W : World) (h : SSt r p q rs1 1 2 W) : Calls Tryd.prog 15 #[.pointer (some ⟨r, 0, none⟩), .pointer (some ⟨p, 0, none⟩), .pointer (some ⟨q, 0, none⟩)] W fun e w' => e = .returned (.tuple #[.agg #[.int .i64 4, .string ⟨#[43, 61]⟩, .int .u32 0, .int .i64 1, .int .i64 2], .int .i64 0]) ∧ SSt r p q rs2 1 4 w' ∧ Fr (fun k => k = r ∨ k = p) W w' :=
  next_tok r p q rs1 1 2 W h (by decide) (by decide) (by decide) (by rw [ByteArray.toList_eq]; decide) (fun w => blank_at rs1 0 (by decide) (by decide) (by decide) (by decide) w) 4 [43, 61] 0 tk1 (by decide) (by decide)
theorem nx2 (r p q : Nat) (W : World) (h : SSt r p q rs2 1 4 W) : Calls Tryd.prog 15 #[.pointer (some ⟨r, 0, none⟩), .pointer (some ⟨p, 0, none⟩), .pointer (some ⟨q, 0, none⟩)] W fun e w' => e = .returned (.tuple #[.agg #[.int .i64 3, .string ⟨#[48, 120, 49, 70]⟩, .int .u32 31, .int .i64 1, .int .i64 4], .int .i64 0]) ∧ SSt r p q rs3 1 8 w' ∧ Fr (fun k => k = r ∨ k = p) W w' :=
  next_tok r p q rs2 1 4 W h (by decide) (by decide) (by decide) (by rw [ByteArray.toList_eq]; decide) (fun w => blank_at rs2 0 (by decide) (by decide) (by decide) (by decide) w) 3 [48, 120, 49, 70] 31 tk2 (by decide) (by decide)
theorem nx3 (r p q : Nat) (W : World) (h : SSt r p q rs3 1 8 W) : Calls Tryd.prog 15 #[.pointer (some ⟨r, 0, none⟩), .pointer (some ⟨p, 0, none⟩), .pointer (some ⟨q, 0, none⟩)] W fun e w' => e = .returned (.tuple #[.agg #[.int .i64 4, .string ⟨#[59]⟩, .int .u32 0, .int .i64 1, .int .i64 8], .int .i64 0]) ∧ SSt r p q rs4 1 9 w' ∧ Fr (fun k => k = r ∨ k = p) W w' :=
  next_tok r p q rs3 1 8 W h (by decide) (by decide) (by decide) (by rw [ByteArray.toList_eq]; decide) (fun w => blank_at rs3 0 (by decide) (by decide) (by decide) (by decide) w) 4 [59] 0 tk3 (by decide) (by decide)
theorem nxC (r p q : Nat) (W : World) (h : SSt r p q tChr 1 1 W) : Calls Tryd.prog 15 #[.pointer (some ⟨r, 0, none⟩), .pointer (some ⟨p, 0, none⟩), .pointer (some ⟨q, 0, none⟩)] W fun e w' => e = .returned (.tuple #[.agg #[.int .i64 3, .string ⟨#[39, 97, 39]⟩, .int .u32 97, .int .i64 1, .int .i64 1], .int .i64 0]) ∧ SSt r p q ⟨#[]⟩ 1 4 w' ∧ Fr (fun k => k = r ∨ k = p) W w' :=
  next_tok r p q tChr 1 1 W h (by decide) (by decide) (by decide) (by rw [ByteArray.toList_eq]; decide) (fun w => blank_at tChr 0 (by decide) (by decide) (by decide) (by decide) w) 3 [39, 97, 39] 97 tkC (by decide) (by decide)
theorem nxO (r p q : Nat) (W : World) (h : SSt r p q tOct 1 1 W) : Calls Tryd.prog 15 #[.pointer (some ⟨r, 0, none⟩), .pointer (some ⟨p, 0, none⟩), .pointer (some ⟨q, 0, none⟩)] W fun e w' => e = .returned (.tuple #[.agg #[.int .i64 0, .string ⟨#[]⟩, .int .u32 0, .int .i64 1, .int .i64 1], .int .i64 3]) ∧ Fr (fun k => k = r ∨ k = p) W w' :=
  (next_err r p q tOct 1 1 W h (by rw [ByteArray.toList_eq]; decide) (fun w => blank_at tOct 0 (by decide) (by decide) (by decide) (by decide) w) 0 [] 0 3 (by decide) tkO).mono fun e w' h => ⟨h.1, h.2.2⟩
theorem blank_none (w : World) : Calls Tryd.prog 16 #[.string ⟨#[]⟩] w fun e w' => e = .returned (.tuple #[.int .i64 0, .int .i64 0]) ∧ w = w' :=
  blank_at ⟨#[]⟩ 0 (by decide) (by decide) (by decide) (by decide) w
def endR : Nat → ByteArray
  | 0 => rs4
  | 1 => rs5
  | _ => ⟨#[]⟩
def endN : Nat → Nat
  | 0 => 1
  | _ => 6
def endC : Nat → Int
  | 0 => 9
  | 1 => 10
  | _ => 16
theorem nxE (r p q : Nat) (W : World) (h : SSt r p q rs4 1 9 W) : Calls Tryd.prog 15 #[.pointer (some ⟨r, 0, none⟩), .pointer (some ⟨p, 0, none⟩), .pointer (some ⟨q, 0, none⟩)] W fun e w' => e = .returned (.tuple #[.agg #[.int .i64 0, .string ⟨#[]⟩, .int .u32 0, .int .i64 1, .int .i64 16], .int .i64 0]) ∧ Fr (fun k => k = r ∨ k = p) W w' := by
  refine (next_end 2 endR endN endC r p q 1 W h (fun i hi => ?_) (fun i hi => ?_) (fun i hi w => ?_) blank_none rfl).mono fun e w' h => ⟨h.1, h.2.2⟩
  · match i, hi with
    | 0, _ => exact ⟨by decide, by decide, by decide⟩
    | 1, _ => exact ⟨by decide, by decide, by decide⟩
    | 2, _ => exact ⟨by decide, by decide, by decide⟩
    | n + 3, h => omega
  · match i, hi with
    | 0, _ => exact ⟨by decide, by decide, rfl, by decide, by decide⟩
    | 1, _ => exact ⟨by decide, by decide, rfl, by decide, by decide⟩
    | n + 2, h => omega
  · match i, hi with
    | 0, _ => exact blank_at rs4 1 (by decide) (by decide) (by decide) (by decide) w
    | 1, _ => exact blank_line rs5 (by decide) (by rw [ByteArray.toList_eq]; decide) (by decide) w
    | n + 2, h => omega
theorem nxD (r p q : Nat) (W : World) (h : SSt r p q ⟨#[]⟩ 1 4 W) : Calls Tryd.prog 15 #[.pointer (some ⟨r, 0, none⟩), .pointer (some ⟨p, 0, none⟩), .pointer (some ⟨q, 0, none⟩)] W fun e w' => e = .returned (.tuple #[.agg #[.int .i64 0, .string ⟨#[]⟩, .int .u32 0, .int .i64 1, .int .i64 4], .int .i64 0]) ∧ Fr (fun k => k = r ∨ k = p) W w' := by
  refine (next_end 0 (fun _ => ⟨#[]⟩) (fun _ => 0) (fun _ => 4) r p q 1 W h (fun i hi => ⟨by decide, by decide, by decide⟩) (fun i hi => by omega) (fun i hi w => by omega) blank_none rfl).mono fun e w' h => ⟨h.1, h.2.2⟩
def exK : Nat → Int
  | 0 => 1
  | 1 => 4
  | 2 => 3
  | _ => 4
def exT : Nat → ByteArray
  | 0 => ⟨#[97]⟩
  | 1 => ⟨#[43, 61]⟩
  | 2 => ⟨#[48, 120, 49, 70]⟩
  | _ => ⟨#[59]⟩
def exN : Nat → Int
  | 0 => 0
  | 1 => 0
  | 2 => 31
  | _ => 0
def exR : Nat → ByteArray
  | 0 => rs0
  | 1 => rs1
  | 2 => rs2
  | 3 => rs3
  | _ => rs4
def exC : Nat → Int
  | 0 => 1
  | 1 => 2
  | 2 => 4
  | 3 => 8
  | _ => 9
theorem lex_ex1 (w : World) : Calls Tryd.prog 6 #[.string rs0] w fun e w' => ∃ v, e = .returned (.tuple #[v, .agg #[.int .i64 1, .int .i64 16], .int .i64 0]) ∧ w'.ownsRow w.heap.size 32 5 v 4 (flatT exK exT exN exC 4) ∧ Fr (fun _ => False) w w' := by
  refine lex_ok rs0 4 exK exT exN exR exC 16 (by decide) (by decide) rfl rfl (fun i hi r p q W h => ?_) (fun i hi => ?_) (fun r p q W h => nxE r p q W h) w
  · match i, hi with
    | 0, _ => exact nx0 r p q W h
    | 1, _ => exact nx1 r p q W h
    | 2, _ => exact nx2 r p q W h
    | 3, _ => exact nx3 r p q W h
    | n + 4, h => omega
  · match i, hi with
    | 0, _ => rfl
    | 1, _ => rfl
    | 2, _ => rfl
    | 3, _ => rfl
    | n + 4, h => omega
def chR : Nat → ByteArray
  | 0 => tChr
  | _ => ⟨#[]⟩
def chC : Nat → Int
  | 0 => 1
  | _ => 4
theorem lex_ex2 (w : World) : Calls Tryd.prog 6 #[.string tChr] w fun e w' => ∃ v, e = .returned (.tuple #[v, .agg #[.int .i64 1, .int .i64 4], .int .i64 0]) ∧ w'.ownsRow w.heap.size 32 5 v 1 (flatT (fun _ => 3) (fun _ => tChr) (fun _ => 97) chC 1) ∧ Fr (fun _ => False) w w' := by
  refine lex_ok tChr 1 (fun _ => 3) (fun _ => tChr) (fun _ => 97) chR chC 4 (by decide) (by decide) rfl rfl (fun i hi r p q W h => ?_) (fun i hi => rfl) (fun r p q W h => nxD r p q W h) w
  match i, hi with
  | 0, _ => exact nxC r p q W h
  | n + 1, h => omega
theorem lex_ex3 (w : World) : Calls Tryd.prog 6 #[.string tOct] w fun e w' => e = .returned (.tuple #[.slice none 0 0, .agg #[.int .i64 1, .int .i64 1], .int .i64 3]) ∧ Fr (fun _ => False) w w' :=
  lex_err tOct 3 (by decide) (by decide) nxO w
end Go.Proofs.YtoffbjfgledjfaaDoor
