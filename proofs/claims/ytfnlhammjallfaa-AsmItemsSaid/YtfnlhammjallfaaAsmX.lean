/-
  Items (layer 5): the contract of Assemble.
-/
import Derived.Test.YtfnlhammjallfaaAsmV
namespace Go.Proofs.Ytfnlhammjallfaa
open Go.RowKit
set_option linter.unusedVariables false
set_option linter.unusedSimpArgs false
theorem right_lab {x : It} (h : rightB x = true) : (x.k = 2 → labB x.lab = true) ∧ (isTo x = true → labB x.lab = true) := by
  unfold rightB at h
  refine ⟨fun e => ?_, fun e => ?_⟩
  · rw [if_neg (by omega), if_pos e] at h
    simp only [Bool.and_eq_true] at h
    exact h.2
  · unfold isTo at e
    simp only [Bool.or_eq_true, beq_iff_eq] at e
    rcases e with e | e
    · rw [if_neg (by omega), if_neg (by omega), if_pos e] at h
      simp only [Bool.and_eq_true] at h
      exact h.2
    · rw [if_neg (by omega), if_neg (by omega), if_neg (by omega), if_pos e] at h
      simp only [Bool.and_eq_true] at h
      exact h.2
abbrev accL (l : List It) : List (Int × Nat) := labsK l l.length
theorem goals_ok (l : List It) : Goals (goalsA l (accL l)) l.length := fun k hk => by
  rw [goalsA_get hk]
  unfold goalF
  split
  · exact ⟨_, valL_lt (by omega), rfl⟩
  · exact ⟨0, by omega, rfl⟩
theorem val_ok (l : List It) (n : Int) (h : hasL (accL l) n = true) : valL (accL l) n < l.length := valL_lt (hasL_lt (n := 0) h)
/-- What Assemble leaves of items that it makes words of. -/
def AsmP (ws ls : List Int) (w : World) (e : Ending) (w' : World) : Prop :=
  ∃ a c b d, e = .returned (.tuple #[.slice a ws.length c, .slice b ls.length d, .int .i64 0]) ∧ Fr (fun _ => False) w w' ∧
    (∀ k, k < ws.length → ∃ g, a = some ⟨g, 0, none⟩ ∧ w'.cell? ⟨g, k, none⟩ = some (.int .u32 (ws.getD k 0))) ∧
    (∀ k, k < ls.length → ∃ g, b = some ⟨g, 0, none⟩ ∧ w'.cell? ⟨g, k, none⟩ = some (.int .i64 (ls.getD k 0)))
theorem asmP_of {ws ls : List Int} {w w1 w2 : World} {v v' : Value} (hw : WrdAt 0 w1 v ws) (hf : Fr (fun _ => False) w w1) (hn : NumAt w1.heap.size w2 v' ls) (hf2 : Fr (fun _ => False) w1 w2) : AsmP ws ls w (.returned (.tuple #[v, v', .int .i64 0])) w2 := by
  obtain ⟨a, c, rfl, h1⟩ := hw.form
  obtain ⟨b, d, rfl, h2⟩ := hn.form
  refine ⟨a, c, b, d, rfl, hf.trans hf2, fun k hk => ?_, fun k hk => ?_⟩
  · obtain ⟨g, e, _, hc⟩ := h1 k hk
    exact ⟨g, e, hf2.cell hc id⟩
  · obtain ⟨g, e, _, hc⟩ := h2 k hk
    exact ⟨g, e, hc⟩
set_option maxRecDepth 100000 in
set_option maxHeartbeats 4000000 in
theorem asm_long (a : Option Addr) (n c : Nat) (h : 32768 < n) (w : World) :
    Calls Try.prog 20 #[.slice a n c] w fun e w' => e = .returned (.tuple #[.slice none 0 0, .slice none 0 0, .int .i64 2]) ∧ w = w' := by
  have d1 : decide ((32768 : Int) < n) = true := decide_eq_true (by omega)
  go_enter Try.func20, Try.ntmps20
  go_wp2
  go_ret3
  exact ⟨rfl, rfl⟩
set_option maxRecDepth 100000 in
set_option maxHeartbeats 8000000 in
theorem asm_bad (a : Option Addr) (c : Nat) (l : List It) (hfew : l.length ≤ 32768) (k0 : Nat) (hk0 : k0 < l.length) (hbad : rightB (l.getD k0 it0) = false) (w : World) (hat : ItAt w.heap.size w a l) :
    Calls Try.prog 20 #[.slice a l.length c] w fun e w' => e = .returned (.tuple #[.slice none 0 0, .slice none 0 0, .int .i64 1]) ∧ Fr (fun _ => False) w w' := by
  obtain ⟨n, hn⟩ : ∃ n, l.length = n := ⟨_, rfl⟩
  have d1 : decide ((32768 : Int) < n) = false := decide_eq_false (by omega)
  have HA := Lib.hid hat
  have HN := Lib.hid hn
  have HB := Lib.hid hbad
  rw [hn] at hfew hk0 ⊢
  clear hat hn hbad
  go_enter Try.func20, Try.ntmps20
  go_wp2
  go_loopw [17] (fun i wr => ∃ k : Nat, i = .int .i64 k ∧ k ≤ n ∧ Hid ((∀ j, j < k → rightB (l.getD j it0) = true) ∧ Fr (fun _ => False) w wr)) (fun i _ => n - (intOf i).toNat)
  case atStart => exact ⟨0, rfl, Nat.zero_le _, Lib.hid ⟨fun j hj => by omega, Fr.refl _ _⟩⟩
  case round =>
    obtain ⟨k, rfl, hk, HW⟩ := hrel
    have hkk : k ≤ k0 := by
      rcases Nat.lt_or_ge k0 k with h | h
      · have := HW.out.1 k0 h; rw [HB.out] at this; cases this
      · exact h
    have hlt : k < n := by omega
    obtain ⟨x, hx⟩ : ∃ x, l.getD k it0 = x := ⟨_, rfl⟩
    obtain ⟨g, o, rfl, hg, c0, c1, c2, c3, c4, c5, c6⟩ := HA.out.get HW.out.2 (fun _ h => h.elim) k (by rw [HN.out]; exact hlt) x hx
    have F1 : Hid (Fr (fun _ => False) wr (wr.alloc (.cells #[.int .i64 x.k, .int .i64 x.op, .int .i64 x.rd, .int .i64 x.r1, .int .i64 x.r2, .int .i64 x.imm, .int .i64 x.lab] 25))) := Lib.hid (fr_al (Fr.refl _ _) _)
    have HR := Lib.hid (c10 x)
    have HX := Lib.hid hx
    cases hr : rightB x
    · rw [hr] at HR
      clear hx hr
      go_wp2_with (go_at_call 10; (with_reducible refine (HR.out _).mono ?_); rintro e w2 ⟨rfl, hgr⟩; have F2 := Lib.hid (F1.out.trans (Fr.of_grown hgr)); clear hgr)
      go_ret3
      exact ⟨rfl, HW.out.2.trans F2.out⟩
    · rw [hr] at HR
      have HRT := Lib.hid hr
      clear hx hr
      go_wp2_with (go_at_call 10; (with_reducible refine (HR.out _).mono ?_); rintro e w2 ⟨rfl, hgr⟩; have F2 := Lib.hid (F1.out.trans (Fr.of_grown hgr)); clear hgr)
      go_roundw
      case rel => exact ⟨k + 1, by go_num, by omega, Lib.hid ⟨fun j hj => by
        by_cases e : j = k
        · subst e; rw [HX.out]; exact HRT.out
        · exact HW.out.1 j (by omega), HW.out.2.trans F2.out⟩⟩
      case measure => simp [intOf]; omega
end Go.Proofs.Ytfnlhammjallfaa
