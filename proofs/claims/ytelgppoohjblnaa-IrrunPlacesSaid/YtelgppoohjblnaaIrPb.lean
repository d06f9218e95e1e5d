/-
  Runs (layer 14): the walk of the law on places.
-/
import Derived.Test.YtelgppoohjblnaaIrPa
namespace Go.Proofs.Ytelgppoohjblnaa.irrunPlaces
open Go.RowKit
set_option linter.unusedVariables false
set_option linter.unusedSimpArgs false
set_option maxRecDepth 100000 in
set_option maxHeartbeats 8000000 in
theorem walk (a : Option Addr) (s : List Int) (c : Nat) (hml : s.length ≤ 9223372036854775807) (w : World) (hat : SlotsAt w a s) :
    Calls Try.prog 4 #[.slice a s.length c] w fun e w' => e = .returned (.bool true) ∧ Fr (fun _ => False) w w' := by
  have HA := Lib.hid hat
  clear hat
  by_cases h40 : 40 < (s.length : Int)
  · go_enter Try.func4, Try.ntmps4
    go_wp2_with (go_at_call 5; (with_reducible refine (c5 _).mono ?_); rintro e w2 ⟨rfl, hf⟩; have HF2 := Lib.hid hf; clear hf)
    go_ret
    exact ⟨rfl, HF2.out⟩
  obtain ⟨n, hn⟩ : ∃ n, s.length = n := ⟨_, rfl⟩
  have HN := Lib.hid hn
  have hl : s.length ≤ 40 := by omega
  have K1 := Lib.hid (fun hs w hat => c8 a c s (Nat.le_trans hl (by decide)) hs w hat)
  have K2 := Lib.hid (fun hs w hat => c9 a c s hl hs w hat)
  rw [hn] at K1 K2 hl h40 hml ⊢
  have h40' : (n : Int) ≤ 40 := by omega
  clear hn h40 hml
  go_enter Try.func4, Try.ntmps4
  go_wp2
  go_loop [3] (fun q => ∃ k : Nat, q = .int .i64 k ∧ k ≤ n ∧ Hid (∀ j, j < k → 0 ≤ s.getD j 0 ∧ s.getD j 0 ≤ 40000)) (fun q => n - (intOf q).toNat)
  case atStart => exact ⟨0, rfl, Nat.zero_le _, Lib.hid (fun j hj => absurd hj (Nat.not_lt_zero _))⟩
  case round =>
    obtain ⟨k, rfl, hk, HS⟩ := hrel
    by_cases hlt : k < n
    · obtain ⟨g, o, nm, al, ce, rfl, c0, c1, c2, c3⟩ := HA.out k (by rw [HN.out]; exact hlt)
      have hlt' : (k : Int) < n := by omega
      have hge : (0 : Int) ≤ k := by omega
      generalize hx : s.getD k 0 = x at *
      have HX := Lib.hid hx
      clear hx c0 c2 c3
      by_cases t1 : x < 0
      · go_wp2_with (go_at_call 5; (with_reducible refine (c5 _).mono ?_); rintro e w2 ⟨rfl, hf⟩; have HF2 := Lib.hid hf; clear hf)
        go_ret
        exact ⟨rfl, HF2.out⟩
      · by_cases t2 : 40000 < x
        · go_wp2_with (go_at_call 5; (with_reducible refine (c5 _).mono ?_); rintro e w2 ⟨rfl, hf⟩; have HF2 := Lib.hid hf; clear hf)
          go_ret
          exact ⟨rfl, HF2.out⟩
        · have hs' : Hid (∀ j, j < k + 1 → 0 ≤ s.getD j 0 ∧ s.getD j 0 ≤ 40000) := Lib.hid (fun j hj => by
            by_cases e : j = k
            · rw [e, HX.out]; omega
            · exact HS.out j (by omega))
          go_wp2
          go_round
          case rel => exact ⟨k + 1, by go_num, by omega, hs'⟩
          case measure => simp [intOf]; omega
    · obtain rfl : n = k := by omega
      have HSL : Hid (Slim s) := Lib.hid (fun j hj => HS.out j (by rw [← HN.out]; exact hj))
      have P1 := Lib.hid (fun W hf => K1.out HSL.out W (HA.out.fr hf))
      have P2 := Lib.hid (fun W hf => K2.out HSL.out W (HA.out.fr hf))
      clear HS K1 K2
      go_wp2_with (first
        | (go_at_call 8; (with_reducible refine (P1.out w (Fr.refl _ _)).mono ?_); rintro e w2 ⟨a1, c1, rfl, h1, hf⟩; have HF1 := Lib.hid hf; have H1 := Lib.hid h1; clear hf h1; rw [HN.out])
        | (go_at_call 9; (with_reducible refine (P2.out w2 HF1.out).mono ?_); rintro e w3 ⟨a2, c2, rfl, h2, hf⟩; have HF2 := Lib.hid (HF1.out.trans hf); have HF12 := Lib.hid hf; have H2 := Lib.hid h2; clear hf h2; rw [HN.out]))
      go_loopw [8] (fun q wr => ∃ k : Nat, q = .int .i64 k ∧ k ≤ n ∧ Hid (Fr (fun _ => False) w3 wr)) (fun q _ => n - (intOf q).toNat)
      case atStart => exact ⟨0, rfl, Nat.zero_le _, Lib.hid (Fr.refl _ _)⟩
      case round =>
        obtain ⟨k, rfl, hk, HW⟩ := hrel
        by_cases hlt : k < n
        · obtain ⟨g1, rfl, q1⟩ := H1.out k (by rw [HN.out]; exact hlt)
          obtain ⟨g2, rfl, q2⟩ := H2.out k (by rw [HN.out]; exact hlt)
          have r1 := HW.out.cell (HF12.out.cell q1 id) id
          have r2 := HW.out.cell q2 id
          have hlt' : (k : Int) < n := by omega
          have hge : (0 : Int) ≤ k := by omega
          clear q1 q2
          go_wp2
          go_quiet (fail)
          go_wp2
          go_roundw
          case rel => exact ⟨k + 1, by go_num, by omega, Lib.hid (HW.out.drewN _)⟩
          case measure => simp [intOf]; omega
        · obtain rfl : n = k := by omega
          go_wp2_with (go_at_call 5; (with_reducible refine (c5 _).mono ?_); rintro e w4 ⟨rfl, hf⟩; have HF4 := Lib.hid ((HF2.out.trans HW.out).trans hf); clear hf)
          go_ret
          exact ⟨rfl, HF4.out⟩
end Go.Proofs.Ytelgppoohjblnaa.irrunPlaces
