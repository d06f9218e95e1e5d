/-
  A number as text (layer 6's Num), the document's own. A number as text, by the library: FormatUint at base 10, any number. A number with a blank ahead (layer 13): the document's own. The lines of a procedure (layer 13): the document's own. Whether an instruction's numbers are such as the laws go through (layer 13): and how small they are then.
-/
import Derived.Test.YthdkmjbeemfbbaaQIqE
import Derived.Lib.ItoaMem
import Derived.Deep.QuietTactic
import Derived.BigQuiet
namespace Go.Proofs.Ythdkmjbeemfbbaa
open Go.RowKit Go.Sort
set_option linter.unusedVariables false
set_option linter.unusedSimpArgs false
theorem dec_step {m : Nat} (h : 10 ≤ m) : Lib.decDigits m = Lib.decDigits (m / 10) ++ [UInt8.ofNat (48 + m % 10)] := by
  rw [Lib.decDigits, dif_neg (by omega)]
theorem dec_len (u : Nat) (hu : u ≤ 9223372036854775807) : (Lib.decDigits u).length ≤ 21 := by
  have := Lib.itoa_length_le u (by omega) (by omega)
  rwa [Lib.itoa_nonneg] at this
/-- What is written so far, with m still to be written. -/
def NumS (u m : Nat) (s : List UInt8) : Prop := (0 < m → Lib.decDigits u = Lib.decDigits m ++ s) ∧ (m = 0 → s = Lib.decDigits u)
theorem NumS.next {u m : Nat} {s : List UInt8} (h : NumS u m s) (hm : 0 < m) : NumS u (m / 10) (UInt8.ofNat (48 + m % 10) :: s) := by
  have e := h.1 hm
  by_cases h10 : m < 10
  · refine ⟨fun h2 => absurd h2 (by omega), fun _ => ?_⟩
    rw [e, Lib.decDigits_one h10, Nat.mod_eq_of_lt h10]
    rfl
  · refine ⟨fun _ => ?_, fun h2 => absurd h2 (by omega)⟩
    rw [e, dec_step (by omega), List.append_assoc]
    rfl
theorem NumS.len {u m : Nat} {s : List UInt8} (h : NumS u m s) (hu : u ≤ 9223372036854775807) : s.length ≤ 21 := by
  have hl := dec_len u hu
  by_cases hm : 0 < m
  · rw [h.1 hm, List.length_append] at hl; omega
  · rw [h.2 (by omega)]; exact hl
def Lo (x : Int) : Prop := -1099511627776 ≤ x ∧ x ≤ 1099511627776
def InsQ (l args : List Int) (e : Ending) : Prop := ∃ t : Bool, e = .returned (.bool t) ∧ (t = true → args.length ≤ 12 ∧ (∀ m, m < 8 → Lo (l.getD m 0)) ∧ ∀ m, m < args.length → Lo (args.getD m 0))
set_option maxRecDepth 100000 in
set_option maxHeartbeats 8000000 in
theorem ins_low (op d a b f o s z : Int) (y8 y10 : Value) (aa : Option Addr) (n c : Nat) (args : List Int) (hn : n = args.length) (hb : n ≤ 9223372036854775807) (w : World) (hat : IntsAt w aa args) :
    Calls Try.prog 9 #[.agg #[.int .i64 op, .int .i64 d, .int .i64 a, .int .i64 b, .int .i64 f, .int .i64 o, .int .i64 s, .int .i64 z, y8, .slice aa n c, y10]] w fun e w' => InsQ [op, d, a, b, f, o, s, z] args e ∧ Fr (fun _ => False) w w' := by
  have HAT := Lib.hid hat
  have HN := Lib.hid hn
  clear hat hn
  go_enter Try.func9, Try.ntmps9
  go_wp2
  have cs : ∀ k, k < 8 → ∃ x, [op, d, a, b, f, o, s, z].getD k 0 = x ∧ ((w.alloc (.cells #[.int .i64 op, .int .i64 d, .int .i64 a, .int .i64 b, .int .i64 f, .int .i64 o, .int .i64 s, .int .i64 z, y8, .slice aa n c, y10] 48)).alloc (.cells #[.int .i64 op, .int .i64 d, .int .i64 a, .int .i64 b, .int .i64 f, .int .i64 o, .int .i64 s, .int .i64 z] 3)).cell? ⟨w.heap.size + 1, k, none⟩ = some (.int .i64 x) := by
    intro k hk
    have q := fun v h => fcell (w.alloc (.cells #[.int .i64 op, .int .i64 d, .int .i64 a, .int .i64 b, .int .i64 f, .int .i64 o, .int .i64 s, .int .i64 z, y8, .slice aa n c, y10] 48)) #[.int .i64 op, .int .i64 d, .int .i64 a, .int .i64 b, .int .i64 f, .int .i64 o, .int .i64 s, .int .i64 z] 3 k v h
    simp only [World.size_alloc] at q
    match k, hk with
    | 0, _ => exact ⟨_, rfl, q _ rfl⟩
    | 1, _ => exact ⟨_, rfl, q _ rfl⟩
    | 2, _ => exact ⟨_, rfl, q _ rfl⟩
    | 3, _ => exact ⟨_, rfl, q _ rfl⟩
    | 4, _ => exact ⟨_, rfl, q _ rfl⟩
    | 5, _ => exact ⟨_, rfl, q _ rfl⟩
    | 6, _ => exact ⟨_, rfl, q _ rfl⟩
    | 7, _ => exact ⟨_, rfl, q _ rfl⟩
    | n + 8, h => exact absurd h (by omega)
  have k9 : ((w.alloc (.cells #[.int .i64 op, .int .i64 d, .int .i64 a, .int .i64 b, .int .i64 f, .int .i64 o, .int .i64 s, .int .i64 z, y8, .slice aa n c, y10] 48)).alloc (.cells #[.int .i64 op, .int .i64 d, .int .i64 a, .int .i64 b, .int .i64 f, .int .i64 o, .int .i64 s, .int .i64 z] 3)).cell? ⟨w.heap.size, 9, none⟩ = some (.slice aa n c) := (fr_al (Fr.refl (fun _ => False) _) _).cell (fcell w _ _ 9 _ rfl) id
  have HF : Hid (Fr (fun _ => False) w ((w.alloc (.cells #[.int .i64 op, .int .i64 d, .int .i64 a, .int .i64 b, .int .i64 f, .int .i64 o, .int .i64 s, .int .i64 z, y8, .slice aa n c, y10] 48)).alloc (.cells #[.int .i64 op, .int .i64 d, .int .i64 a, .int .i64 b, .int .i64 f, .int .i64 o, .int .i64 s, .int .i64 z] 3))) := Lib.hid (fr_al (fr_al (Fr.refl _ _) _) _)
  have HC := Lib.hid cs
  clear cs
  obtain ⟨W, hW⟩ : ∃ W, ((w.alloc (.cells #[.int .i64 op, .int .i64 d, .int .i64 a, .int .i64 b, .int .i64 f, .int .i64 o, .int .i64 s, .int .i64 z, y8, .slice aa n c, y10] 48)).alloc (.cells #[.int .i64 op, .int .i64 d, .int .i64 a, .int .i64 b, .int .i64 f, .int .i64 o, .int .i64 s, .int .i64 z] 3)) = W := ⟨_, rfl⟩
  rw [hW] at HC k9 HF ⊢
  clear hW
  go_loopw [4] (fun q wr => ∃ k : Nat, q = .int .i64 k ∧ k ≤ 8 ∧ wr = W ∧ Hid (∀ m, m < k → Lo ([op, d, a, b, f, o, s, z].getD m 0))) (fun q _ => 8 - (intOf q).toNat)
  case atStart => exact ⟨0, rfl, by omega, rfl, Lib.hid (fun m hm => absurd hm (by omega))⟩
  case round =>
    obtain ⟨k, rfl, hk, rfl, HK⟩ := hrel
    by_cases hlt : k < 8
    · obtain ⟨x, hx, C⟩ := HC.out k hlt
      have HX := Lib.hid hx
      clear hx
      by_cases h1 : (1099511627776 : Int) < x
      · go_wp2
        go_ret
        exact ⟨⟨false, rfl, fun h => by cases h⟩, HF.out⟩
      · by_cases h2 : x < (-1099511627776 : Int)
        · go_wp2
          go_ret
          exact ⟨⟨false, rfl, fun h => by cases h⟩, HF.out⟩
        · have HK2 : Hid (∀ m, m < k + 1 → Lo ([op, d, a, b, f, o, s, z].getD m 0)) := Lib.hid (fun m hm => by
            by_cases hmk : m < k
            · exact HK.out m hmk
            · obtain rfl : m = k := by omega
              rw [HX.out]; exact ⟨by omega, by omega⟩)
          go_wp2
          go_roundw
          case rel => exact ⟨k + 1, by go_num, by omega, trivial, HK2⟩
          case measure => simp [intOf]; omega
    · obtain rfl : k = 8 := by omega
      go_wp2
      go_loopw [5] (fun q w2 => ∃ k : Nat, q = .int .i64 k ∧ k ≤ n ∧ w2 = wr ∧ Hid (∀ m, m < k → Lo (args.getD m 0))) (fun q _ => n - (intOf q).toNat)
      case atStart => exact ⟨0, rfl, by omega, rfl, Lib.hid (fun m hm => absurd hm (by omega))⟩
      case round =>
        obtain ⟨k, rfl, hk, rfl, HA⟩ := hrel
        by_cases hlt : k < n
        · obtain ⟨gg, oo, rfl, C⟩ := (HAT.out.fr HF.out) k (by rw [← HN.out]; exact hlt)
          obtain ⟨x, hx⟩ : ∃ x, args.getD k 0 = x := ⟨_, rfl⟩
          rw [hx] at C
          have HX := Lib.hid hx
          clear hx
          by_cases h1 : (1099511627776 : Int) < x
          · go_wp2
            go_ret
            exact ⟨⟨false, rfl, fun h => by cases h⟩, HF.out⟩
          · by_cases h2 : x < (-1099511627776 : Int)
            · go_wp2
              go_ret
              exact ⟨⟨false, rfl, fun h => by cases h⟩, HF.out⟩
            · have HA2 : Hid (∀ m, m < k + 1 → Lo (args.getD m 0)) := Lib.hid (fun m hm => by
                by_cases hmk : m < k
                · exact HA.out m hmk
                · obtain rfl : m = k := by omega
                  rw [HX.out]; exact ⟨by omega, by omega⟩)
              go_wp2
              go_roundw
              case rel => exact ⟨k + 1, by go_num, by omega, trivial, HA2⟩
              case measure => simp [intOf]; omega
        · obtain rfl : k = n := by omega
          go_wp2
          go_ret
          exact ⟨⟨_, rfl, fun h => ⟨by have := of_decide_eq_true h; rw [← HN.out]; omega, HK.out, by rw [← HN.out]; exact HA.out⟩⟩, HF.out⟩
end Go.Proofs.Ythdkmjbeemfbbaa
