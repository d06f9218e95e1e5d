/-
  Any function of two words (layer 14): the program's and the document's own. Any function of two words (layer 14): the document's own walks. Runs (layer 14): where slots lie, the program's and the document's own.
-/
import Derived.Test.YthdkmjbeemfbbaaQMath
import Derived.Test.YthdkmjbeemfbbaaQFr
import Derived.LoopTactic
import Derived.Laws.AppendOwn
namespace Go.Proofs.Ythdkmjbeemfbbaa
open Go.RowKit
set_option linter.unusedVariables false
set_option linter.unusedSimpArgs false
def tr (p : Bool) : Int := if p then 1 else 0
theorem less_tr (a b : Int) : lessF a b = tr (decide (sg a < sg b)) := by unfold lessF tr; by_cases h : sg a < sg b <;> simp [h]
theorem c54 (p : Bool) (w : World) : Calls Try.prog 54 #[.bool p] w fun e w' => e = .returned (.int .u32 (tr p)) ∧ w = w' := by
  cases p
  all_goals
    go_enter Try.func54, Try.ntmps54
    go_wp2
    go_ret
    exact ⟨rfl, rfl⟩
/-- What function fn makes of a and b. -/
def irF (fn a b : Int) : Int :=
  if fn = 1 then (a + b) % 4294967296 else if fn = 2 then (a - b) % 4294967296 else if fn = 3 then mulF a b else if fn = 4 then divF a b else if fn = 5 then remF a b else if fn = 6 then bits .and .u32 a b else if fn = 7 then bits .or .u32 a b else if fn = 8 then bits .xor .u32 a b else if fn = 9 then leftF a b else if fn = 10 then rightSF a b else if fn = 11 then tr (a == b) else if fn = 12 then tr (a != b) else if fn = 13 then tr (decide (sg a < sg b)) else if fn = 14 then tr (decide (sg b < sg a)) else if fn = 15 then tr (decide (sg a ≤ sg b)) else if fn = 16 then tr (decide (sg b ≤ sg a)) else if fn = 17 then (0 - a) % 4294967296 else if fn = 18 then 4294967295 - a else if fn = 19 then tr (a == 0) else 0
theorem irF_17 (a b : Int) : irF 17 a b = (0 - a) % 4294967296 := rfl
theorem irF_no (fn a b : Int) (h : fn < 1 ∨ 19 < fn) : irF fn a b = 0 := by unfold irF; simp; omega
theorem le_tr (a b : Int) : (1 - lessF b a) % 4294967296 = tr (decide (sg a ≤ sg b)) := by
  rw [less_tr]; unfold tr; by_cases h : sg b < sg a
  · have : ¬ sg a ≤ sg b := by omega
    simp [h, this]
  · have : sg a ≤ sg b := by omega
    simp [h, this]
theorem xorN (n : Nat) (h : n < 2^32) : (2^32-1) ^^^ n = 2^32 - 1 - n := by
  apply Nat.eq_of_testBit_eq; intro i
  rw [Nat.testBit_xor, Nat.testBit_two_pow_sub_one]
  have := Nat.testBit_two_pow_sub_succ (x := n) (n := 32) h i
  rw [show 2^32 - 1 - n = 2^32 - (n+1) by omega, this]
  by_cases hi : i < 32
  · simp [hi]
  · have : n.testBit i = false := Nat.testBit_lt_two_pow (Nat.lt_of_lt_of_le h (Nat.pow_le_pow_right (by decide) (by omega)))
    simp [hi, this]
theorem not_xor (a : Int) (h0 : 0 ≤ a) (h1 : a ≤ 4294967295) : bits .xor .u32 IntKind.u32.max a = 4294967295 - a := by
  obtain ⟨n, rfl⟩ := Int.eq_ofNat_of_zero_le h0
  have e : (BitVec.ofInt 32 (n : Int)).toNat = n := by simp; omega
  have m : (BitVec.ofInt 32 (4294967295 : Int)).toNat = 2^32-1 := by decide
  show IntKind.u32.wrap ((BitVec.ofInt 32 (4294967295 : Int) ^^^ BitVec.ofInt 32 (n : Int)).toNat : Int) = _
  rw [BitVec.toNat_xor, e, m, xorN n (by omega)]
  simp [IntKind.wrap, IntKind.bits, IntKind.signed]; omega
set_option maxHeartbeats 4000000 in
theorem c30 (fn : Int) (a b : Int) (h0 : 0 ≤ a) (h1 : a ≤ 4294967295) (g0 : 0 ≤ b) (g1 : b ≤ 4294967295) (w : World) : Calls Try.prog 30 #[.int .i64 fn, .int .u32 a, .int .u32 b] w fun e w' => e = .returned (.int .u32 (irF fn a b)) ∧ Fr (fun _ => False) w w' := by
  by_cases hr : fn < 1 ∨ 19 < fn
  · have hh : (List.range 19).all (fun k => (fn == ((k + 1 : Nat) : Int)) == false) = true := by
      rw [List.all_eq_true]; intro k hk; have := List.mem_range.1 hk; simp; omega
    have HE := Lib.hid (irF_no fn a b hr)
    have e1 : (fn == 1) = false := by simp; omega
    have e2 : (fn == 2) = false := by simp; omega
    have e3 : (fn == 3) = false := by simp; omega
    have e4 : (fn == 4) = false := by simp; omega
    have e5 : (fn == 5) = false := by simp; omega
    have e6 : (fn == 6) = false := by simp; omega
    have e7 : (fn == 7) = false := by simp; omega
    have e8 : (fn == 8) = false := by simp; omega
    have e9 : (fn == 9) = false := by simp; omega
    have e10 : (fn == 10) = false := by simp; omega
    have e11 : (fn == 11) = false := by simp; omega
    have e12 : (fn == 12) = false := by simp; omega
    have e13 : (fn == 13) = false := by simp; omega
    have e14 : (fn == 14) = false := by simp; omega
    have e15 : (fn == 15) = false := by simp; omega
    have e16 : (fn == 16) = false := by simp; omega
    have e17 : (fn == 17) = false := by simp; omega
    have e18 : (fn == 18) = false := by simp; omega
    have e19 : (fn == 19) = false := by simp; omega
    clear hh hr
    go_enter Try.func30, Try.ntmps30
    go_wp2
    go_ret
    exact ⟨by rw [HE.out]; rfl, Fr.refl _ _⟩
  · have : fn = 1 ∨ fn = 2 ∨ fn = 3 ∨ fn = 4 ∨ fn = 5 ∨ fn = 6 ∨ fn = 7 ∨ fn = 8 ∨ fn = 9 ∨ fn = 10 ∨ fn = 11 ∨ fn = 12 ∨ fn = 13 ∨ fn = 14 ∨ fn = 15 ∨ fn = 16 ∨ fn = 17 ∨ fn = 18 ∨ fn = 19 := by omega
    clear hr
    rcases this with rfl | rfl | rfl | rfl | rfl | rfl | rfl | rfl | rfl | rfl | rfl | rfl | rfl | rfl | rfl | rfl | rfl | rfl | rfl
    · go_enter Try.func30, Try.ntmps30
      go_wp2_with (go_at_call 47; (with_reducible refine (c47 _ _ h0 h1 g0 g1 _).mono ?_); rintro e w2 ⟨rfl, rfl⟩)
      go_ret
      exact ⟨rfl, Fr.refl _ _⟩
    · go_enter Try.func30, Try.ntmps30
      go_wp2_with (go_at_call 48; (with_reducible refine (c48 _ _ h0 h1 g0 g1 _).mono ?_); rintro e w2 ⟨rfl, rfl⟩)
      go_ret
      exact ⟨rfl, Fr.refl _ _⟩
    · go_enter Try.func30, Try.ntmps30
      go_wp2_with (go_at_call 49; (with_reducible refine (c49 _ _ h0 h1 g0 g1 _).mono ?_); rintro e w2 ⟨rfl, rfl⟩)
      go_ret
      exact ⟨rfl, Fr.refl _ _⟩
    · go_enter Try.func30, Try.ntmps30
      go_wp2_with (go_at_call 50; (with_reducible refine (c50 _ _ h0 h1 g0 g1 _).mono ?_); rintro e w2 ⟨rfl, rfl⟩)
      go_ret
      exact ⟨rfl, Fr.refl _ _⟩
    · go_enter Try.func30, Try.ntmps30
      go_wp2_with (go_at_call 51; (with_reducible refine (c51 _ _ h0 h1 g0 g1 _).mono ?_); rintro e w2 ⟨rfl, rfl⟩)
      go_ret
      exact ⟨rfl, Fr.refl _ _⟩
    · go_enter Try.func30, Try.ntmps30
      go_wp2
      go_ret
      exact ⟨rfl, Fr.refl _ _⟩
    · go_enter Try.func30, Try.ntmps30
      go_wp2
      go_ret
      exact ⟨rfl, Fr.refl _ _⟩
    · go_enter Try.func30, Try.ntmps30
      go_wp2
      go_ret
      exact ⟨rfl, Fr.refl _ _⟩
    · go_enter Try.func30, Try.ntmps30
      go_wp2_with (go_at_call 52; (with_reducible refine (c52 _ _ h0 h1 g0 g1 _).mono ?_); rintro e w2 ⟨rfl, rfl⟩)
      go_ret
      exact ⟨rfl, Fr.refl _ _⟩
    · go_enter Try.func30, Try.ntmps30
      go_wp2_with (go_at_call 53; (with_reducible refine (c53 _ _ h0 h1 g0 g1 _).mono ?_); rintro e w2 ⟨rfl, rfl⟩)
      go_ret
      exact ⟨rfl, fr_al (Fr.refl _ _) _⟩
    · go_enter Try.func30, Try.ntmps30
      go_wp2_with (go_at_call 54; (with_reducible refine (c54 _ _).mono ?_); rintro e w2 ⟨rfl, rfl⟩)
      go_ret
      exact ⟨rfl, Fr.refl _ _⟩
    · go_enter Try.func30, Try.ntmps30
      go_wp2_with (go_at_call 54; (with_reducible refine (c54 _ _).mono ?_); rintro e w2 ⟨rfl, rfl⟩)
      go_ret
      exact ⟨rfl, Fr.refl _ _⟩
    · go_enter Try.func30, Try.ntmps30
      go_wp2_with (go_at_call 55; (with_reducible refine (c55 _ _ h0 h1 g0 g1 _).mono ?_); rintro e w2 ⟨rfl, rfl⟩)
      go_ret
      exact ⟨ret_int (less_tr a b), Fr.refl _ _⟩
    · go_enter Try.func30, Try.ntmps30
      go_wp2_with (go_at_call 55; (with_reducible refine (c55 _ _ g0 g1 h0 h1 _).mono ?_); rintro e w2 ⟨rfl, rfl⟩)
      go_ret
      exact ⟨ret_int (less_tr b a), Fr.refl _ _⟩
    · go_enter Try.func30, Try.ntmps30
      go_wp2_with (go_at_call 55; (with_reducible refine (c55 _ _ g0 g1 h0 h1 _).mono ?_); rintro e w2 ⟨rfl, rfl⟩)
      go_ret
      exact ⟨ret_int (le_tr a b), Fr.refl _ _⟩
    · go_enter Try.func30, Try.ntmps30
      go_wp2_with (go_at_call 55; (with_reducible refine (c55 _ _ h0 h1 g0 g1 _).mono ?_); rintro e w2 ⟨rfl, rfl⟩)
      go_ret
      exact ⟨ret_int (le_tr b a), Fr.refl _ _⟩
    · go_enter Try.func30, Try.ntmps30
      go_wp2_with (go_at_call 48; (with_reducible refine (c48 _ _ (by omega) (by omega) h0 h1 _).mono ?_); rintro e w2 ⟨rfl, rfl⟩)
      go_ret
      exact ⟨ret_int (by rw [irF_17]; congr 1; omega), Fr.refl _ _⟩
    · go_enter Try.func30, Try.ntmps30
      go_wp2
      go_ret
      exact ⟨ret_int (not_xor a h0 h1), Fr.refl _ _⟩
    · go_enter Try.func30, Try.ntmps30
      go_wp2_with (go_at_call 54; (with_reducible refine (c54 _ _).mono ?_); rintro e w2 ⟨rfl, rfl⟩)
      go_ret
      exact ⟨rfl, Fr.refl _ _⟩
theorem infoI : (Try.prog.info? 3).map (fun i => (i.zero, i.size, i.bytes)) = some (some (.int .i64 0), 1, 8) := by kernel_rfl
def ints (l : List Int) : List Value := l.map (Value.int .i64)
/-- Sizes rounded up to four, one behind the other. -/
def up4 (n : Int) : Int := (n + 3) / 4 * 4
def offs (s : List Int) : Nat → Int
  | 0 => 0
  | k + 1 => offs s k + up4 (s.getD k 0)
def Slim (s : List Int) : Prop := ∀ k, k < s.length → 0 ≤ s.getD k 0 ∧ s.getD k 0 ≤ 40000
theorem offs_in {s : List Int} (h : Slim s) (k : Nat) (hk : k ≤ s.length) : 0 ≤ offs s k ∧ offs s k ≤ 40004 * k ∧ offs s k % 4 = 0 := by
  induction k with
  | zero => simp [offs]
  | succ k ih => have := ih (by omega); have := h k (by omega); simp only [offs, up4]; omega
def offL (s : List Int) (k : Nat) : List Int := (List.range k).map (offs s)
theorem offL_len (s : List Int) (k : Nat) : (offL s k).length = k := by simp [offL]
theorem offL_succ (s : List Int) (k : Nat) : offL s (k + 1) = offL s k ++ [offs s k] := by simp [offL, List.range_succ]
/-- Slots of these sizes lie behind a slice's head. -/
def SlotsAt (w : World) (a : Option Addr) (s : List Int) : Prop := ∀ k, k < s.length → ∃ g o nm al ce, a = some ⟨g, o, none⟩ ∧ w.cell? ⟨g, o + k * 4, none⟩ = some (.string nm) ∧ w.cell? ⟨g, o + k * 4 + 1, none⟩ = some (.int .i64 (s.getD k 0)) ∧ w.cell? ⟨g, o + k * 4 + 2, none⟩ = some (.int .i64 al) ∧ w.cell? ⟨g, o + k * 4 + 3, none⟩ = some (.int .i64 ce)
theorem SlotsAt.fr {w w' : World} {a : Option Addr} {s : List Int} (h : SlotsAt w a s) (hf : Fr (fun _ => False) w w') : SlotsAt w' a s := fun k hk => by
  obtain ⟨g, o, nm, al, ce, e, c0, c1, c2, c3⟩ := h k hk
  exact ⟨g, o, nm, al, ce, e, hf.cell c0 id, hf.cell c1 id, hf.cell c2 id, hf.cell c3 id⟩
/-- Offsets, so far. -/
structure PlR (w wr : World) (v : Value) (s : List Int) (k : Nat) : Prop where
  row : wr.ownsRow w.heap.size 3 1 v k (ints (offL s k))
  fr : Fr (fun _ => False) w wr
theorem PlR.box {w wr w3 : World} {v : Value} {s : List Int} {k : Nat} (h : PlR w wr v s k) {cs : Array Value} {t : TypeId} {o : Obj} (hg : ((wr.alloc (.cells cs t)).alloc o).grownBy w3 v.ownBlock) (j : Nat) (y : Value) (hy : cs[j]? = some y) : w3.cell? ⟨wr.heap.size, j, none⟩ = some y := by
  refine (Fr.of_by hg).cell ((fr_al (Fr.refl (fun _ => False) _) _).cell (fcell wr cs t j y hy) id) (fun e => ?_)
  have := (World.ownsRow.lt h.row _ e).2
  simp at this
end Go.Proofs.Ythdkmjbeemfbbaa
