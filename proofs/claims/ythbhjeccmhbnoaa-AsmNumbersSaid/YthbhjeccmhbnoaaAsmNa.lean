/-
  Items (layer 5): the walk of the law on constants.
-/
import Derived.Test.YthbhjeccmhbnoaaAsmAw
namespace Go.Proofs.Ythbhjeccmhbnoaa.asmNumbers
open Go.RowKit
set_option linter.unusedVariables false
set_option linter.unusedSimpArgs false
/-- A word that was made is decoded as it was. -/
theorem dec_call (i : In) (h : fitI i = true) : Hid (∀ w, Calls Try.prog 22 #[.int .u32 (encI i)] w fun e w' => e = .returned (.tuple #[.agg #[.int .i64 i.op, .int .i64 i.rd, .int .i64 i.r1, .int .i64 i.r2, .int .i64 i.imm], .int .i64 0]) ∧ Grown w w') := by
  obtain ⟨op, rd, r1, r2, imm⟩ := i
  obtain ⟨e0, e1, ⟨u0, u1⟩, e3, e4, e5, e6, e7⟩ := enc_back (show fitsB rd r1 r2 imm (fm (ix op)) = true from h)
  have K := c22_some (encW op rd r1 r2 imm) u0 u1 (ix op) e3 e0
  rw [e4, e5, e6, e7, e1] at K
  exact Lib.hid K
theorem num1 (rd n : Int) (i : In) (hi : numI rd n = [i]) (h0 : 0 ≤ rd ∧ rd ≤ 31) (hn : 0 ≤ n ∧ n ≤ 4294967295) : Hid (∀ w : World, Calls Try.prog 20 #[.slice (some ⟨w.heap.size, 0, none⟩) 1 1] (w.alloc (.cells #[.int .i64 5, .int .i64 0, .int .i64 rd, .int .i64 0, .int .i64 0, .int .i64 n, .int .i64 0] 25)) fun e w' =>
    ∃ g c b d, e = .returned (.tuple #[.slice (some ⟨g, 0, none⟩) 1 c, .slice b 0 d, .int .i64 0]) ∧ Fr (fun _ => False) w w' ∧ w'.cell? ⟨g, 0, none⟩ = some (.int .u32 (encI i))) := Lib.hid (fun w => (asm_num rd n h0 hn w).mono (fun e w' h => by
  rw [hi] at h
  obtain ⟨a, c, b, d, rfl, hf, hw⟩ := h
  obtain ⟨g, rfl, c0⟩ := hw 0 (by simp)
  exact ⟨g, c, b, d, rfl, hf, c0⟩))
theorem num2 (rd n : Int) (i i' : In) (hi : numI rd n = [i, i']) (h0 : 0 ≤ rd ∧ rd ≤ 31) (hn : 0 ≤ n ∧ n ≤ 4294967295) : Hid (∀ w : World, Calls Try.prog 20 #[.slice (some ⟨w.heap.size, 0, none⟩) 1 1] (w.alloc (.cells #[.int .i64 5, .int .i64 0, .int .i64 rd, .int .i64 0, .int .i64 0, .int .i64 n, .int .i64 0] 25)) fun e w' =>
    ∃ g c b d, e = .returned (.tuple #[.slice (some ⟨g, 0, none⟩) 2 c, .slice b 0 d, .int .i64 0]) ∧ Fr (fun _ => False) w w' ∧ w'.cell? ⟨g, 0, none⟩ = some (.int .u32 (encI i)) ∧ w'.cell? ⟨g, 1, none⟩ = some (.int .u32 (encI i'))) := Lib.hid (fun w => (asm_num rd n h0 hn w).mono (fun e w' h => by
  rw [hi] at h
  obtain ⟨a, c, b, d, rfl, hf, hw⟩ := h
  obtain ⟨g, rfl, c0⟩ := hw 0 (by simp)
  obtain ⟨g', eg, c1⟩ := hw 1 (by simp)
  cases eg
  exact ⟨_, c, b, d, rfl, hf, c0, c1⟩))
set_option maxRecDepth 100000 in
set_option maxHeartbeats 4000000 in
theorem walk_bad (rd n : Int) (h0 : ¬ (0 ≤ rd ∧ rd ≤ 31)) (hn : 0 ≤ n ∧ n ≤ 4294967295) (w : World) :
    Calls Try.prog 6 #[.int .i64 rd, .int .u32 n] w fun e w' => e = .returned (.bool true) ∧ Fr (fun _ => False) w w' := by
  have HA := Lib.hid (asm_num_bad rd n h0)
  have hc : rd < 0 ∨ ¬ rd < 0 ∧ 31 < rd := by omega
  obtain ⟨n0, n1⟩ := hn
  clear h0
  rcases hc with h | ⟨h, h'⟩
  all_goals
    go_enter Try.func6, Try.ntmps6
    go_wp2_with (first
      | (go_at_call 15; (with_reducible refine (c15 _ _ n0 n1 _).mono ?_); rintro e w1 ⟨rfl, hg⟩; have F1 : Hid (Fr (fun _ => False) w w1) := Lib.hid (Fr.of_grown hg); clear hg)
      | (go_at_call 20; (with_reducible refine (HA.out w1).mono ?_); rintro e w2 ⟨rfl, hf⟩; have F2 := Lib.hid (F1.out.trans hf); clear hf)
      | (go_at_call 9; (with_reducible refine (c9 _).mono ?_); rintro e w3 ⟨rfl, hf⟩; have F3 := Lib.hid (F2.out.trans hf); clear hf))
    go_ret
    exact ⟨rfl, F3.out⟩
/-- One word: an addi or a lui. -/
theorem walk_1 (rd n op s : Int) (hi : numI rd n = [⟨op, rd, 0, 0, s⟩]) (hop : op = 1 ∨ op = 19) (hs : -2147483648 ≤ s ∧ s ≤ 2147483647) (hsum : s % 4294967296 = n) (h0 : 0 ≤ rd ∧ rd ≤ 31) (hn : 0 ≤ n ∧ n ≤ 4294967295) (w : World) :
    Calls Try.prog 6 #[.int .i64 rd, .int .u32 n] w fun e w' => e = .returned (.bool true) ∧ Fr (fun _ => False) w w' := by
  have HA := num1 rd n _ hi h0 hn
  have HD := dec_call ⟨op, rd, 0, 0, s⟩ (num_fits (n := n) h0 _ (by rw [hi]; simp))
  have HS := Lib.hid hsum
  simp only at HD
  generalize encI ⟨op, rd, 0, 0, s⟩ = U at *
  obtain ⟨n0, n1⟩ := hn
  obtain ⟨r0, r1⟩ := h0
  obtain ⟨s0, s1⟩ := hs
  have hb : (s % 4294967296 == n) = true := by simpa using hsum
  clear hi hsum
  rcases hop with rfl | rfl
  all_goals
    go_enter Try.func6, Try.ntmps6
    go_wp2_with (first
      | (go_at_call 15; (with_reducible refine (c15 _ _ n0 n1 _).mono ?_); rintro e w1 ⟨rfl, hg⟩; have F1 : Hid (Fr (fun _ => False) w w1) := Lib.hid (Fr.of_grown hg); clear hg)
      | (go_at_call 20; (with_reducible refine (HA.out w1).mono ?_); rintro e w2 ⟨g, c, b, d, rfl, hf, q0⟩; have F2 := Lib.hid (F1.out.trans hf); have Q0 := Lib.hid q0; clear hf q0))
    go_loopw [8, 9] (fun u i wr => ((i = .int .i64 0 ∧ u = .int .i64 0) ∨ (i = .int .i64 1 ∧ u = .int .i64 s)) ∧ Hid (Fr (fun _ => False) w2 wr)) (fun _ i _ => 1 - (intOf i).toNat)
    case atStart => exact ⟨Or.inl ⟨rfl, rfl⟩, Lib.hid (Fr.refl _ _)⟩
    case round =>
      obtain ⟨hor, HW⟩ := hrel
      rcases hor with ⟨rfl, rfl⟩ | ⟨rfl, rfl⟩
      · have q0 := HW.out.cell Q0.out id
        go_wp2_with (first
          | (go_at_call 22; (with_reducible refine (HD.out _).mono ?_); rintro e w3 ⟨rfl, hg⟩; have F3 := Lib.hid (HW.out.trans (Fr.of_grown hg)); clear hg))
        go_roundw
        case rel => exact ⟨Or.inr ⟨rfl, rfl⟩, Lib.hid (fr_al F3.out _)⟩
        case measure => simp [intOf]
      · go_wp2_with (first
          | (go_at_call 9; (with_reducible refine (c9 _).mono ?_); rintro e w4 ⟨rfl, hf⟩; have F4 := Lib.hid (F2.out.trans (HW.out.trans hf)); clear hf)
          | (go_at_call 25; (with_reducible refine (c25 _ (by omega) (by omega) _).mono ?_); rintro e w5 ⟨rfl, rfl⟩))
        go_ret
        exact ⟨rfl, F4.out⟩
set_option maxRecDepth 100000 in
set_option maxHeartbeats 4000000 in
/-- Two words. -/
theorem walk_2 (rd n s t : Int) (hi : numI rd n = [⟨1, rd, 0, 0, s⟩, ⟨19, rd, rd, 0, t⟩]) (hs : -2147483648 ≤ s ∧ s ≤ 2147483647) (ht : -2147483648 ≤ t ∧ t ≤ 2147483647) (hsum : (s + t) % 4294967296 = n) (h0 : 0 ≤ rd ∧ rd ≤ 31) (hn : 0 ≤ n ∧ n ≤ 4294967295) (w : World) :
    Calls Try.prog 6 #[.int .i64 rd, .int .u32 n] w fun e w' => e = .returned (.bool true) ∧ Fr (fun _ => False) w w' := by
  have HA := num2 rd n _ _ hi h0 hn
  have HD := dec_call ⟨1, rd, 0, 0, s⟩ (num_fits (n := n) h0 _ (by rw [hi]; simp))
  have HE := dec_call ⟨19, rd, rd, 0, t⟩ (num_fits (n := n) h0 _ (by rw [hi]; simp))
  have HS := Lib.hid hsum
  simp only at HD HE
  generalize encI ⟨1, rd, 0, 0, s⟩ = U at *
  generalize encI ⟨19, rd, rd, 0, t⟩ = V at *
  obtain ⟨n0, n1⟩ := hn
  obtain ⟨r0, r1⟩ := h0
  obtain ⟨s0, s1⟩ := hs
  obtain ⟨t0, t1⟩ := ht
  have hb : ((s + t) % 4294967296 == n) = true := by simpa using hsum
  clear hi hsum
  by_cases hr : rd = 0
  · subst hr
    go_enter Try.func6, Try.ntmps6
    go_wp2_with (first
      | (go_at_call 15; (with_reducible refine (c15 _ _ n0 n1 _).mono ?_); rintro e w1 ⟨rfl, hg⟩; have F1 : Hid (Fr (fun _ => False) w w1) := Lib.hid (Fr.of_grown hg); clear hg)
      | (go_at_call 20; (with_reducible refine (HA.out w1).mono ?_); rintro e w2 ⟨g, c, b, d, rfl, hf, q0, q1⟩; have F2 := Lib.hid (F1.out.trans hf); have Q0 := Lib.hid q0; have Q1 := Lib.hid q1; clear hf q0 q1))
    go_loopw [8, 9] (fun u i wr => ((i = .int .i64 0 ∧ u = .int .i64 0) ∨ (i = .int .i64 1 ∧ u = .int .i64 s) ∨ (i = .int .i64 2 ∧ u = .int .i64 (s + t))) ∧ Hid (Fr (fun _ => False) w2 wr)) (fun _ i _ => 2 - (intOf i).toNat)
    case atStart => exact ⟨Or.inl ⟨rfl, rfl⟩, Lib.hid (Fr.refl _ _)⟩
    case round =>
      obtain ⟨hor, HW⟩ := hrel
      rcases hor with ⟨rfl, rfl⟩ | ⟨rfl, rfl⟩ | ⟨rfl, rfl⟩
      · have q0 := HW.out.cell Q0.out id
        go_wp2_with (first
          | (go_at_call 22; (with_reducible refine (HD.out _).mono ?_); rintro e w3 ⟨rfl, hg⟩; have F3 := Lib.hid (HW.out.trans (Fr.of_grown hg)); clear hg))
        go_roundw
        case rel => exact ⟨Or.inr (Or.inl ⟨rfl, rfl⟩), Lib.hid (fr_al F3.out _)⟩
        case measure => simp [intOf]
      · have q1 := HW.out.cell Q1.out id
        go_wp2_with (first
          | (go_at_call 22; (with_reducible refine (HE.out _).mono ?_); rintro e w3 ⟨rfl, hg⟩; have F3 := Lib.hid (HW.out.trans (Fr.of_grown hg)); clear hg))
        go_roundw
        case rel => exact ⟨Or.inr (Or.inr ⟨rfl, rfl⟩), Lib.hid (fr_al F3.out _)⟩
        case measure => simp [intOf]
      · go_wp2_with (first
          | (go_at_call 9; (with_reducible refine (c9 _).mono ?_); rintro e w4 ⟨rfl, hf⟩; have F4 := Lib.hid (F2.out.trans (HW.out.trans hf)); clear hf)
          | (go_at_call 25; (with_reducible refine (c25 _ (by omega) (by omega) _).mono ?_); rintro e w5 ⟨rfl, rfl⟩))
        go_ret
        exact ⟨rfl, F4.out⟩
  · have rb : (rd == 0) = false := by simpa using hr
    have rb' : (rd != 0) = true := by simpa using hr
    clear hr
    go_enter Try.func6, Try.ntmps6
    go_wp2_with (first
      | (go_at_call 15; (with_reducible refine (c15 _ _ n0 n1 _).mono ?_); rintro e w1 ⟨rfl, hg⟩; have F1 : Hid (Fr (fun _ => False) w w1) := Lib.hid (Fr.of_grown hg); clear hg)
      | (go_at_call 20; (with_reducible refine (HA.out w1).mono ?_); rintro e w2 ⟨g, c, b, d, rfl, hf, q0, q1⟩; have F2 := Lib.hid (F1.out.trans hf); have Q0 := Lib.hid q0; have Q1 := Lib.hid q1; clear hf q0 q1))
    go_loopw [8, 9] (fun u i wr => ((i = .int .i64 0 ∧ u = .int .i64 0) ∨ (i = .int .i64 1 ∧ u = .int .i64 s) ∨ (i = .int .i64 2 ∧ u = .int .i64 (s + t))) ∧ Hid (Fr (fun _ => False) w2 wr)) (fun _ i _ => 2 - (intOf i).toNat)
    case atStart => exact ⟨Or.inl ⟨rfl, rfl⟩, Lib.hid (Fr.refl _ _)⟩
    case round =>
      obtain ⟨hor, HW⟩ := hrel
      rcases hor with ⟨rfl, rfl⟩ | ⟨rfl, rfl⟩ | ⟨rfl, rfl⟩
      · have q0 := HW.out.cell Q0.out id
        go_wp2_with (first
          | (go_at_call 22; (with_reducible refine (HD.out _).mono ?_); rintro e w3 ⟨rfl, hg⟩; have F3 := Lib.hid (HW.out.trans (Fr.of_grown hg)); clear hg))
        go_roundw
        case rel => exact ⟨Or.inr (Or.inl ⟨rfl, rfl⟩), Lib.hid (fr_al F3.out _)⟩
        case measure => simp [intOf]
      · have q1 := HW.out.cell Q1.out id
        go_wp2_with (first
          | (go_at_call 22; (with_reducible refine (HE.out _).mono ?_); rintro e w3 ⟨rfl, hg⟩; have F3 := Lib.hid (HW.out.trans (Fr.of_grown hg)); clear hg))
        go_roundw
        case rel => exact ⟨Or.inr (Or.inr ⟨rfl, rfl⟩), Lib.hid (fr_al F3.out _)⟩
        case measure => simp [intOf]
      · go_wp2_with (first
          | (go_at_call 9; (with_reducible refine (c9 _).mono ?_); rintro e w4 ⟨rfl, hf⟩; have F4 := Lib.hid (F2.out.trans (HW.out.trans hf)); clear hf)
          | (go_at_call 25; (with_reducible refine (c25 _ (by omega) (by omega) _).mono ?_); rintro e w5 ⟨rfl, rfl⟩))
        go_ret
        exact ⟨rfl, F4.out⟩
theorem walk (a0 a1 : Int) (w0 : (Lit.int .i64 a0).wf = true) (w1 : (Lit.int .u32 a1).wf = true) (w : World) :
    Calls Try.prog 6 #[.int .i64 a0, .int .u32 a1] w fun e w' => e = .returned (.bool true) ∧ Fr (fun _ => False) w w' := by
  have hn := wf_u32 w1
  by_cases h0 : 0 ≤ a0 ∧ a0 ≤ 31
  · obtain ⟨l0, l1, l2, l3⟩ := lo_in a1
    obtain ⟨g0, g1, g2, g3⟩ := hi_in a1
    by_cases hh : hiW a1 = 0
    · have e : sg (hiW a1) = 0 := by rw [hh]; rfl
      exact walk_1 a0 a1 19 (sg (loW a1)) (by unfold numI; rw [if_pos hh]) (Or.inr rfl) (by omega) (by rw [e] at g3; omega) h0 hn w
    · by_cases hl : loW a1 = 0
      · have e : sg (loW a1) = 0 := by rw [hl]; rfl
        exact walk_1 a0 a1 1 (sg (hiW a1)) (by unfold numI; rw [if_neg hh, if_pos hl]) (Or.inl rfl) (by omega) (by rw [e] at g3; omega) h0 hn w
      · exact walk_2 a0 a1 (sg (hiW a1)) (sg (loW a1)) (by unfold numI; rw [if_neg hh, if_neg hl]) (by omega) (by omega) (by omega) h0 hn w
  · exact walk_bad a0 a1 h0 hn w
end Go.Proofs.Ythbhjeccmhbnoaa.asmNumbers
