/-
  Items (layer 5): the contract of Assemble. Items (layer 5): the contract of Assemble, where it makes words.
-/
import Derived.Test.YtnjlcimeaoedcaaQAsmV
namespace Go.Proofs.Ytnjlcimeaoedcaa
open Go.RowKit
set_option linter.unusedVariables false
set_option linter.unusedSimpArgs false
theorem right_lab {x : It} (h : rightB x = true) : (x.k = 2 → labB x.lab = true) ∧ (isTo x = true → labB x.lab = true) := by
  unfold rightB at h
  refine ⟨fun e => ?_, fun e => ?_⟩
  · rw [if_neg (by omega), if_pos e] at h
    simp only [Bool.and_eq_true] at h
    exact h.2
  · unfold isTo at e
    simp only [Bool.or_eq_true, beq_iff_eq] at e
    rcases e with e | e
    · rw [if_neg (by omega), if_neg (by omega), if_pos e] at h
      simp only [Bool.and_eq_true] at h
      exact h.2
    · rw [if_neg (by omega), if_neg (by omega), if_neg (by omega), if_pos e] at h
      simp only [Bool.and_eq_true] at h
      exact h.2
abbrev accL (l : List It) : List (Int × Nat) := labsK l l.length
theorem goals_ok (l : List It) : Goals (goalsA l (accL l)) l.length := fun k hk => by
  rw [goalsA_get hk]
  unfold goalF
  split
  · exact ⟨_, valL_lt (by omega), rfl⟩
  · exact ⟨0, by omega, rfl⟩
theorem val_ok (l : List It) (n : Int) (h : hasL (accL l) n = true) : valL (accL l) n < l.length := valL_lt (hasL_lt (n := 0) h)
/-- What Assemble leaves of items that it makes words of. -/
def AsmP (ws ls : List Int) (w : World) (e : Ending) (w' : World) : Prop :=
  ∃ a c b d, e = .returned (.tuple #[.slice a ws.length c, .slice b ls.length d, .int .i64 0]) ∧ Fr (fun _ => False) w w' ∧
    (∀ k, k < ws.length → ∃ g, a = some ⟨g, 0, none⟩ ∧ w'.cell? ⟨g, k, none⟩ = some (.int .u32 (ws.getD k 0))) ∧
    (∀ k, k < ls.length → ∃ g, b = some ⟨g, 0, none⟩ ∧ w'.cell? ⟨g, k, none⟩ = some (.int .i64 (ls.getD k 0)))
theorem asmP_of {ws ls : List Int} {w w1 w2 : World} {v v' : Value} (hw : WrdAt 0 w1 v ws) (hf : Fr (fun _ => False) w w1) (hn : NumAt w1.heap.size w2 v' ls) (hf2 : Fr (fun _ => False) w1 w2) : AsmP ws ls w (.returned (.tuple #[v, v', .int .i64 0])) w2 := by
  obtain ⟨a, c, rfl, h1⟩ := hw.form
  obtain ⟨b, d, rfl, h2⟩ := hn.form
  refine ⟨a, c, b, d, rfl, hf.trans hf2, fun k hk => ?_, fun k hk => ?_⟩
  · obtain ⟨g, e, _, hc⟩ := h1 k hk
    exact ⟨g, e, hf2.cell hc id⟩
  · obtain ⟨g, e, _, hc⟩ := h2 k hk
    exact ⟨g, e, hc⟩
set_option maxRecDepth 100000 in
set_option maxHeartbeats 4000000 in
theorem asm_long (a : Option Addr) (n c : Nat) (h : 32768 < n) (w : World) :
    Calls Try.prog 7 #[.slice a n c] w fun e w' => e = .returned (.tuple #[.slice none 0 0, .slice none 0 0, .int .i64 2]) ∧ w = w' := by
  have d1 : decide ((32768 : Int) < n) = true := decide_eq_true (by omega)
  go_enter Try.func7, Try.ntmps7
  go_wp2
  go_ret3
  exact ⟨rfl, rfl⟩
set_option maxRecDepth 100000 in
set_option maxHeartbeats 8000000 in
theorem asm_bad (a : Option Addr) (c : Nat) (l : List It) (hfew : l.length ≤ 32768) (k0 : Nat) (hk0 : k0 < l.length) (hbad : rightB (l.getD k0 it0) = false) (w : World) (hat : ItAt w.heap.size w a l) :
    Calls Try.prog 7 #[.slice a l.length c] w fun e w' => e = .returned (.tuple #[.slice none 0 0, .slice none 0 0, .int .i64 1]) ∧ Fr (fun _ => False) w w' := by
  obtain ⟨n, hn⟩ : ∃ n, l.length = n := ⟨_, rfl⟩
  have d1 : decide ((32768 : Int) < n) = false := decide_eq_false (by omega)
  have HA := Lib.hid hat
  have HN := Lib.hid hn
  have HB := Lib.hid hbad
  rw [hn] at hfew hk0 ⊢
  clear hat hn hbad
  go_enter Try.func7, Try.ntmps7
  go_wp2
  go_loopw [17] (fun i wr => ∃ k : Nat, i = .int .i64 k ∧ k ≤ n ∧ Hid ((∀ j, j < k → rightB (l.getD j it0) = true) ∧ Fr (fun _ => False) w wr)) (fun i _ => n - (intOf i).toNat)
  case atStart => exact ⟨0, rfl, Nat.zero_le _, Lib.hid ⟨fun j hj => by omega, Fr.refl _ _⟩⟩
  case round =>
    obtain ⟨k, rfl, hk, HW⟩ := hrel
    have hkk : k ≤ k0 := by
      rcases Nat.lt_or_ge k0 k with h | h
      · have := HW.out.1 k0 h; rw [HB.out] at this; cases this
      · exact h
    have hlt : k < n := by omega
    obtain ⟨x, hx⟩ : ∃ x, l.getD k it0 = x := ⟨_, rfl⟩
    obtain ⟨g, o, rfl, hg, c0, c1, c2, c3, c4, c5, c6⟩ := HA.out.get HW.out.2 (fun _ h => h.elim) k (by rw [HN.out]; exact hlt) x hx
    have F1 : Hid (Fr (fun _ => False) wr (wr.alloc (.cells #[.int .i64 x.k, .int .i64 x.op, .int .i64 x.rd, .int .i64 x.r1, .int .i64 x.r2, .int .i64 x.imm, .int .i64 x.lab] 40))) := Lib.hid (fr_al (Fr.refl _ _) _)
    have HR := Lib.hid (c18 x)
    have HX := Lib.hid hx
    cases hr : rightB x
    · rw [hr] at HR
      clear hx hr
      go_wp2_with (go_at_call 18; (with_reducible refine (HR.out _).mono ?_); rintro e w2 ⟨rfl, hgr⟩; have F2 := Lib.hid (F1.out.trans (Fr.of_grown hgr)); clear hgr)
      go_ret3
      exact ⟨rfl, HW.out.2.trans F2.out⟩
    · rw [hr] at HR
      have HRT := Lib.hid hr
      clear hx hr
      go_wp2_with (go_at_call 18; (with_reducible refine (HR.out _).mono ?_); rintro e w2 ⟨rfl, hgr⟩; have F2 := Lib.hid (F1.out.trans (Fr.of_grown hgr)); clear hgr)
      go_roundw
      case rel => exact ⟨k + 1, by go_num, by omega, Lib.hid ⟨fun j hj => by
        by_cases e : j = k
        · subst e; rw [HX.out]; exact HRT.out
        · exact HW.out.1 j (by omega), HW.out.2.trans F2.out⟩⟩
      case measure => simp [intOf]; omega
abbrev golL (l : List It) : List Int := goalsA l (accL l)
abbrev farL (l : List It) : Nat → Bool := farE l (golL l)
set_option maxRecDepth 100000 in
set_option maxHeartbeats 8000000 in
theorem asm_ok (a : Option Addr) (c : Nat) (l : List It) (ws : List Int) (hfew : l.length ≤ 32768) (hright : ∀ k, k < l.length → rightB (l.getD k it0) = true) (hfit : Fit l)
    (htw : twiceK l l.length = false) (hlk : lackK l (accL l) l.length = false) (hws : wordsK l (golL l) (farL l) l.length = some ws) (h4 : ∀ k, k < l.length → (l.getD k it0).k ≠ 4)
    (hfits : ∀ k, k < l.length → ∀ L, insK l (golL l) (farL l) k = some L → ∀ i ∈ L, fitI i = true) (w : World) (hat : ItAt w.heap.size w a l) :
    Calls Try.prog 7 #[.slice a l.length c] w (AsmP ws (addrK (accL l) (szF l (farL l)) 4096) w) := by
  have hap := apartL_labs l l.length htw
  have HDEF : Hid (∀ w3, Fr (fun _ => False) w w3 → Calls Try.prog 19 #[.slice a l.length c] w3 fun e w4 => Fr (fun _ => False) w3 w4 ∧ ∃ B, e = .returned (.tuple #[.map (some B), .int .i64 0]) ∧ ownsL w4 B (accL l)) := Lib.hid (fun w3 hf =>
    (c19 a l.length c l rfl hfew (fun k hk e => (right_lab (hright k hk)).1 e) w3 ((hat.fr hf (fun _ h => h.elim)).mono hf.size)).mono (fun e w4 h => ⟨h.1, by
      have h2 := h.2
      rw [if_neg (by rw [htw]; decide)] at h2
      obtain ⟨B, e1, _, e3⟩ := h2
      exact ⟨B, e1, e3⟩⟩))
  have HRES : Hid (∀ w3 B, Fr (fun _ => False) w w3 → ownsL w3 B (accL l) → Calls Try.prog 20 #[.slice a l.length c, .map (some B)] w3 fun e w4 => Fr (fun _ => False) w3 w4 ∧ ∃ g, e = .returned (.tuple #[.slice (some ⟨g, 0, none⟩) l.length l.length, .int .i64 0]) ∧ IRow 0 w4 g (golL l)) := Lib.hid (fun w3 B hf ho =>
    (c20 a l.length c l (accL l) B rfl hfew hap (fun k hk e => (right_lab (hright k hk)).2 e) w3 ((hat.fr hf (fun _ h => h.elim)).mono hf.size) ho).mono (fun e w4 h => ⟨h.1, by
      have h2 := h.2
      rw [if_neg (by rw [hlk]; decide)] at h2
      obtain ⟨g, e1, e3⟩ := h2
      exact ⟨g, e1, e3.mono (Nat.zero_le _)⟩⟩))
  have HSET : Hid (∀ w3 gg, Fr (fun _ => False) w w3 → IRow 0 w3 gg (golL l) → Calls Try.prog 21 #[.slice a l.length c, .slice (some ⟨gg, 0, none⟩) l.length l.length] w3 (SettleP l (golL l) (.slice a l.length c) (.slice (some ⟨gg, 0, none⟩) l.length l.length) l.length w3)) := Lib.hid (fun w3 gg hf hr =>
    c21 a l.length c gg l (golL l) rfl hfew hfit (goalsA_len l _) (goals_ok l) w3 ((hat.fr hf (fun _ h => h.elim)).mono hf.size) hr)
  have HPL : Hid (∀ w3 gg gs ga, Fr (fun _ => False) w w3 → IRow 0 w3 gg (golL l) → IRow 0 w3 gs (szF l (farL l)) → IRow 0 w3 ga (atK (szF l (farL l))) → PlW l (golL l) (farL l) a gg gs ga l.length w3) := Lib.hid (fun w3 gg gs ga hf h1 h2 h3 =>
    ⟨rfl, hfew, hfit, goalsA_len l _, goals_ok l, ⟨_, hat.fr hf (fun _ h => h.elim)⟩, h1, h2, h3⟩)
  have HWRD : Hid (∀ w3 gg gs ga, PlW l (golL l) (farL l) a gg gs ga l.length w3 → Calls Try.prog 22 #[.agg #[.slice a l.length c, .slice (some ⟨gg, 0, none⟩) l.length l.length, .slice (some ⟨gs, 0, none⟩) l.length l.length, .slice (some ⟨ga, 0, none⟩) l.length l.length]] w3 fun e w4 => Fr (fun _ => False) w3 w4 ∧ ∃ v, e = .returned (.tuple #[v, .int .i64 0]) ∧ WrdAt 0 w4 v ws) := Lib.hid (fun w3 gg gs ga hp =>
    (c22 l (golL l) (farL l) a c gg gs ga l.length w3 hp (fun w4 hp4 k hk => ins_any c hp4 hk (h4 k hk)) hfits).mono (fun e w4 h => by
      rw [hws] at h
      obtain ⟨h1, v, e1, h2⟩ := h
      exact ⟨h1, v, e1, h2.mono (Nat.zero_le _)⟩))
  have HADR : Hid (∀ w3 B gg gs ga, ownsL w3 B (accL l) → IRow 0 w3 ga (atK (szF l (farL l))) → Calls Try.prog 23 #[.agg #[.slice a l.length c, .slice (some ⟨gg, 0, none⟩) l.length l.length, .slice (some ⟨gs, 0, none⟩) l.length l.length, .slice (some ⟨ga, 0, none⟩) l.length l.length], .map (some B)] w3 (NumP (addrK (accL l) (szF l (farL l)) 4096) w3)) := Lib.hid (fun w3 B gg gs ga ho hr =>
    c23 _ _ _ B ga l.length (accL l) (szF l (farL l)) (szF_len l _) hfew hap (fun n h => val_ok l n h) w3 ho hr)
  have HA := Lib.hid hat
  have HRT := Lib.hid hright
  clear hat hright hfit htw hlk hws h4 hfits hap
  obtain ⟨n, hn⟩ : ∃ n, l.length = n := ⟨_, rfl⟩
  have HN := Lib.hid hn
  rw [hn] at hfew HDEF HRES HSET HPL HWRD HADR ⊢
  have d1 : decide ((32768 : Int) < n) = false := decide_eq_false (by omega)
  clear hn
  go_enter Try.func7, Try.ntmps7
  go_wp2
  go_loopw [17] (fun i wr => ∃ k : Nat, i = .int .i64 k ∧ k ≤ n ∧ Hid (Fr (fun _ => False) w wr)) (fun i _ => n - (intOf i).toNat)
  case atStart => exact ⟨0, rfl, Nat.zero_le _, Lib.hid (Fr.refl _ _)⟩
  case round =>
    obtain ⟨k, rfl, hk, HW⟩ := hrel
    by_cases hlt : k < n
    · obtain ⟨x, hx⟩ : ∃ x, l.getD k it0 = x := ⟨_, rfl⟩
      obtain ⟨g, o, rfl, hg, c0, c1, c2, c3, c4, c5, c6⟩ := HA.out.get HW.out (fun _ h => h.elim) k (by rw [HN.out]; exact hlt) x hx
      have F1 : Hid (Fr (fun _ => False) wr (wr.alloc (.cells #[.int .i64 x.k, .int .i64 x.op, .int .i64 x.rd, .int .i64 x.r1, .int .i64 x.r2, .int .i64 x.imm, .int .i64 x.lab] 40))) := Lib.hid (fr_al (Fr.refl _ _) _)
      have HR := Lib.hid (c18 x)
      have hr := HRT.out k (by rw [HN.out]; exact hlt)
      rw [hx] at hr
      rw [hr] at HR
      clear hx hr
      go_wp2_with (go_at_call 18; (with_reducible refine (HR.out _).mono ?_); rintro e w2 ⟨rfl, hgr⟩; have F2 := Lib.hid (F1.out.trans (Fr.of_grown hgr)); clear hgr)
      go_roundw
      case rel => exact ⟨k + 1, by go_num, by omega, Lib.hid (HW.out.trans F2.out)⟩
      case measure => simp [intOf]; omega
    · go_wp2_with (first
        | (go_at_call 19; (with_reducible refine (HDEF.out _ HW.out).mono ?_); rintro e w2 ⟨hf2, B, rfl, ho2⟩; have F2 := Lib.hid (HW.out.trans hf2); have O2 := Lib.hid ho2; clear hf2 ho2)
        | (go_at_call 20; (with_reducible refine (HRES.out _ B F2.out O2.out).mono ?_); rintro e w3 ⟨hf3, gg, rfl, hr3⟩; have F3 := Lib.hid (F2.out.trans hf3); have O3 := Lib.hid (ownsL_fr O2.out hf3 id); have R3 := Lib.hid hr3; clear hf3 hr3)
        | (go_at_call 21; (with_reducible refine (HSET.out _ gg F3.out R3.out).mono ?_); rintro e w4 ⟨gs, ga, rfl, hs4, ha4, _, hf4⟩; have F4 := Lib.hid (fr_al (F3.out.trans hf4) (.cells #[.slice a n c, .slice (some ⟨gg, 0, none⟩) n n, .slice (some ⟨gs, 0, none⟩) n n, .slice (some ⟨ga, 0, none⟩) n n] 58)); have K4 := Lib.hid (fr_al hf4 (.cells #[.slice a n c, .slice (some ⟨gg, 0, none⟩) n n, .slice (some ⟨gs, 0, none⟩) n n, .slice (some ⟨ga, 0, none⟩) n n] 58)); have S4 := Lib.hid ((hs4.mono (Nat.zero_le _)).fr (fr_al (Fr.refl (fun _ => False) _) (.cells #[.slice a n c, .slice (some ⟨gg, 0, none⟩) n n, .slice (some ⟨gs, 0, none⟩) n n, .slice (some ⟨ga, 0, none⟩) n n] 58)) id); have A4 := Lib.hid ((ha4.mono (Nat.zero_le _)).fr (fr_al (Fr.refl (fun _ => False) _) (.cells #[.slice a n c, .slice (some ⟨gg, 0, none⟩) n n, .slice (some ⟨gs, 0, none⟩) n n, .slice (some ⟨ga, 0, none⟩) n n] 58)) id); clear hs4 ha4 hf4)
        | (go_at_call 22; (with_reducible refine (HWRD.out _ gg gs ga (HPL.out _ gg gs ga F4.out (R3.out.fr K4.out id) S4.out A4.out)).mono ?_); rintro e w5 ⟨hf5, v5, rfl, hw5⟩; have b0 := hf5.cell (fcell w4 #[.slice a n c, .slice (some ⟨gg, 0, none⟩) n n, .slice (some ⟨gs, 0, none⟩) n n, .slice (some ⟨ga, 0, none⟩) n n] 58 0 _ rfl) id; have b1 := hf5.cell (fcell w4 #[.slice a n c, .slice (some ⟨gg, 0, none⟩) n n, .slice (some ⟨gs, 0, none⟩) n n, .slice (some ⟨ga, 0, none⟩) n n] 58 1 _ rfl) id; have b2 := hf5.cell (fcell w4 #[.slice a n c, .slice (some ⟨gg, 0, none⟩) n n, .slice (some ⟨gs, 0, none⟩) n n, .slice (some ⟨ga, 0, none⟩) n n] 58 2 _ rfl) id; have b3 := hf5.cell (fcell w4 #[.slice a n c, .slice (some ⟨gg, 0, none⟩) n n, .slice (some ⟨gs, 0, none⟩) n n, .slice (some ⟨ga, 0, none⟩) n n] 58 3 _ rfl) id; have F5 := Lib.hid (F4.out.trans hf5); have O5 := Lib.hid (ownsL_fr (ownsL_fr O3.out K4.out id) hf5 id); have A5 := Lib.hid (A4.out.fr hf5 id); have W5 := Lib.hid hw5; clear hf5 hw5)
        | (go_at_call 23; (with_reducible refine (HADR.out _ B gg gs ga O5.out A5.out).mono ?_); rintro e w6 ⟨v6, rfl, hn6, hf6⟩; have N6 := Lib.hid hn6; have F6 := Lib.hid hf6; clear hn6 hf6))
      go_ret3
      exact asmP_of W5.out F5.out N6.out F6.out
end Go.Proofs.Ytnjlcimeaoedcaa
