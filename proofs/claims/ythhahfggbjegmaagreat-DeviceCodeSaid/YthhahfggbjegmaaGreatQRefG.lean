/-
  The contract of the document's own Decode: the walk.
-/
import Derived.Test.YthhahfggbjegmaaGreatQRef
namespace Go.Proofs.YthhahfggbjegmaaGreat
open Go.RowKit
set_option linter.unusedVariables false
set_option linter.unusedSimpArgs false

def decV (U : Int) : Value :=
  if findI U = 0 then .tuple #[.agg #[.int .i64 0, .int .i64 0, .int .i64 0, .int .i64 0, .int .i64 0], .int .i64 3]
  else .tuple #[.agg #[.int .i64 (findI U), .int .i64 (regV U 7 (uRd (fm (findI U)))), .int .i64 (regV U 15 (uRs1 (fm (findI U)))), .int .i64 (regV U 20 (uRs2 (fm (findI U)))), .int .i64 (gathS (fm (findI U)) U)], .int .i64 0]
theorem decV_none {U : Int} (h : findI U = 0) : decV U = .tuple #[.agg #[.int .i64 0, .int .i64 0, .int .i64 0, .int .i64 0, .int .i64 0], .int .i64 3] := by unfold decV; rw [if_pos h]
theorem decV_some {U : Int} {k : Nat} (h : findI U = k) (k0 : k ≠ 0) : decV U = .tuple #[.agg #[.int .i64 k, .int .i64 (regV U 7 (uRd (fm k))), .int .i64 (regV U 15 (uRs1 (fm k))), .int .i64 (regV U 20 (uRs2 (fm k))), .int .i64 (gathS (fm k) U)], .int .i64 0] := by
  unfold decV; rw [if_neg (by omega), h]
def DecP (U : Int) (w : World) (e : Ending) (w' : World) : Prop := e = .returned (decV U) ∧ Grown w w'
theorem decP_ret {U : Int} {w w' : World} {v : Value} (h : decV U = v) (hg : Grown w w') : DecP U w (.returned v) w' := ⟨by rw [h], hg⟩
theorem zero_cell {w w' : World} (h : Grown (w.alloc (.cells zero30 66)) w') (j : Nat) (hj : j < 5) : w'.cell? ⟨w.heap.size, j, none⟩ = some (.int .i64 0) := by
  refine grown_cell h (row_cell w zero30 66 j _ ?_)
  match j, hj with
  | 0, _ | 1, _ | 2, _ | 3, _ | 4, _ => rfl
  | n + 5, hn => exact absurd hn (by omega)
theorem grown_inner {w w' : World} {cs : Array Value} {t : TypeId} (h : Grown (w.alloc (.cells cs t)) w') : Grown w w' := grown_trans ((Grown.refl _).alloc _ _) h

theorem cell_new {wr w2 : World} {X : Array Value} {t : TypeId} {n : Nat} (hg : Grown ((wr.alloc (.cells X t)).drewN n) w2) (j : Nat) (v : Value) (h : X[j]? = some v) : w2.cell? ⟨wr.heap.size, j, none⟩ = some v :=
  grown_cell hg (show (wr.alloc (.cells X t)).cell? _ = _ from row_cell wr X t j v h)
theorem grown_new {Z wr w2 : World} {X : Array Value} {t : TypeId} {n : Nat} (h : Grown Z wr) (hg : Grown ((wr.alloc (.cells X t)).drewN n) w2) : Grown Z w2 :=
  grown_trans (grown_drewN (h.alloc X t) n) hg
theorem reg_if (U a : Int) (b : Bool) : regV U a b = if b = true then regV U a true else 0 := by cases b <;> simp [regV]
set_option maxRecDepth 100000 in
set_option maxHeartbeats 8000000 in
theorem rv17 (u : Int) (u0 : 0 ≤ u) (u1 : u ≤ 4294967295) (w : World) :
    Calls Tryz.prog 31 #[.int .u32 u] w (DecP u w) := by
  have R7 : Hid (∀ w, Calls Tryz.prog 39 #[.int .i64 u, .int .i64 7, .int .i64 11, .int .i64 0] w fun e w' => e = .returned (.int .i64 (regV u 7 true)) ∧ ∃ n, w' = w.drewN n) := Lib.hid (r54 u 7 u0 u1 (by simp))
  have R15 : Hid (∀ w, Calls Tryz.prog 39 #[.int .i64 u, .int .i64 15, .int .i64 19, .int .i64 0] w fun e w' => e = .returned (.int .i64 (regV u 15 true)) ∧ ∃ n, w' = w.drewN n) := Lib.hid (r54 u 15 u0 u1 (by simp))
  have R20 : Hid (∀ w, Calls Tryz.prog 39 #[.int .i64 u, .int .i64 20, .int .i64 24, .int .i64 0] w fun e w' => e = .returned (.int .i64 (regV u 20 true)) ∧ ∃ n, w' = w.drewN n) := Lib.hid (r54 u 20 u0 u1 (by simp))
  have HG := Lib.hid (Grown.refl (w.alloc (.cells zero30 66)))
  have hda : ∀ (w : World) (n : Nat) (o : Obj), (w.drewN n).alloc o = (w.alloc o).drewN n := fun _ _ _ => rfl
  have hds : ∀ (w : World) (n : Nat) (a : Addr) (v : Value), (w.drewN n).setCell a v = (w.setCell a v).drewN n := fun _ _ _ _ => rfl
  go_enter Tryz.func31, Tryz.ntmps31
  go_wp2
  go_loopw [5] (fun j wr => ∃ k : Nat, 1 ≤ k ∧ k ≤ 46 ∧ j = .int .i64 k ∧ Hid (NoMt u k) ∧ Hid (Grown (w.alloc (.cells zero30 66)) wr)) (fun j _ => 46 - (intOf j).toNat)
  case atStart => exact ⟨1, by omega, by omega, rfl, Lib.hid (fun i hi hi0 => absurd hi (by omega)), HG⟩
  case round =>
    obtain ⟨k, hk1, hk, rfl, HN, HW⟩ := hrel
    clear HG
    by_cases hlt : k < 46
    · have k0 : k ≠ 0 := by omega
      have hf := fm_form' k hlt
      have hn := fm_pos k hlt k0
      have fit := dec_fits u0 u1 hlt k0
      have D0 : Mt u k → decV u = _ := fun m => decV_some (find_is u0 u1 hlt k0 m) k0
      have S1 := dec_sum u0 u1 hlt k0
      have S2 := dec_not u0 u1 hlt k0
      have HN' : ¬ Mt u k → NoMt u (k + 1) := fun m i hi hi0 => by
        by_cases h : i = k
        · subst h; exact m
        · exact HN.out i (by omega) hi0
      have T45 : ∀ w, Calls Tryz.prog 36 #[.int .i64 k] w fun e w' => e = .returned (.int .u8 (fm k)) ∧ w = w' := fun w => by have := c36 (k : Int) w; rwa [ix_nat hlt] at this
      have T15 := rv15 (k : Int) (regV u 7 (uRd (fm k))) (regV u 15 (uRs1 (fm k))) (regV u 20 (uRs2 (fm k))) (gathS (fm k) u)
      rw [ix_nat hlt, fit] at T15
      have T43 := rv43 k hlt k0 _ _ _ _ fit
      have T53 : ∀ w, Calls Tryz.prog 37 #[.int .u8 (fm k), .int .i64 u] w fun e w' => e = .returned (.int .i64 (gathS (fm k) u)) ∧ ∃ n, w' = w.drewN n := rv53 (fm k) u hf u0 u1
      have T47a := rv47a (fm k) hf hn
      have T47b := rv47b (fm k) hf hn
      have T47c := rv47c (fm k) hf hn
      rw [reg_if u 7, reg_if u 15, reg_if u 20] at D0 S1 S2 T15 T43
      clear fit hf hn k0
      generalize sumW k _ _ _ _ = S at *
      generalize gathS (fm k) u = T at *
      generalize regV u 7 true = A at *
      generalize regV u 15 true = B at *
      generalize regV u 20 true = C at *
      generalize uRd (fm k) = U0 at *
      generalize uRs1 (fm k) = U1 at *
      generalize uRs2 (fm k) = U2 at *
      generalize fm k = f at *
      have K45 := Lib.hid T45
      have K53 := Lib.hid T53
      have K47a := Lib.hid T47a
      have K47b := Lib.hid T47b
      have K47c := Lib.hid T47c
      clear T45 T53 T47a T47b T47c
      by_cases m : Mt u k
      · have e : S = u := S1 m
        subst e
        have HD := D0 m
        clear S1 S2 HN' D0 m
        cases U0 <;> cases U1 <;> cases U2
        all_goals
          simp only [if_true, if_false, Bool.false_eq_true, reduceIte] at T15 T43 HD
          have K15 := Lib.hid T15
          have K43 := Lib.hid T43
          have HF := Lib.hid HD
          clear T15 T43 HD
          go_wp2_with (first
            | (go_at_call 36; (with_reducible refine (K45.out _).mono ?_); rintro e w1 ⟨rfl, rfl⟩)
            | (go_at_call 37; (with_reducible refine (K53.out _).mono ?_); rintro e w1 ⟨rfl, n, rfl⟩)
            | (go_at_call 38; (with_reducible refine (K47a.out _).mono ?_); rintro e w1 ⟨rfl, rfl⟩)
            | (go_at_call 38; (with_reducible refine (K47b.out _).mono ?_); rintro e w1 ⟨rfl, rfl⟩)
            | (go_at_call 38; (with_reducible refine (K47c.out _).mono ?_); rintro e w1 ⟨rfl, rfl⟩)
            | (go_at_call 39; (with_reducible refine (R7.out _).mono ?_); rintro e w1 ⟨rfl, n, rfl⟩)
            | (go_at_call 39; (with_reducible refine (R15.out _).mono ?_); rintro e w1 ⟨rfl, n, rfl⟩)
            | (go_at_call 39; (with_reducible refine (R20.out _).mono ?_); rintro e w1 ⟨rfl, n, rfl⟩)
            | (go_at_call 40; (with_reducible refine (K15.out _).mono ?_); rintro e w2 ⟨rfl, hg⟩
               have a0 := cell_new hg 0 _ rfl
               have a1 := cell_new hg 1 _ rfl
               have a2 := cell_new hg 2 _ rfl
               have a3 := cell_new hg 3 _ rfl
               have a4 := cell_new hg 4 _ rfl
               have HW2 := Lib.hid (grown_new HW.out hg); clear hg)
            | (go_at_call 41; (with_reducible refine (K43.out _).mono ?_); rintro e w3 ⟨rfl, hg⟩
               have b0 := grown_cell hg a0
               have b1 := grown_cell hg a1
               have b2 := grown_cell hg a2
               have b3 := grown_cell hg a3
               have b4 := grown_cell hg a4
               have hG := grown_trans HW2.out hg
               have z0 := zero_cell hG 0 (by decide)
               have z1 := zero_cell hG 1 (by decide)
               have z2 := zero_cell hG 2 (by decide)
               have z3 := zero_cell hG 3 (by decide)
               have z4 := zero_cell hG 4 (by decide)
               have y0 := new_frozen hG 0
               have y1 := new_frozen hG 1
               have y2 := new_frozen hG 2
               have y3 := new_frozen hG 3
               have y4 := new_frozen hG 4
               clear hG
               have HW3 := Lib.hid (grown_trans HW2.out hg); clear hg))
          refine bodyPost_ret (v := .tuple #[.agg #[.int .i64 k, _, _, _, .int .i64 T], .int .i64 0]) (by simp [results, Tryz.results31, go_sem, z0, z1, z2, z3, z4]) rfl (decP_ret HF.out ?_)
          exact ((((((grown_inner HW3.out)).setCell (Nat.le_refl _) _).setCell (Nat.le_refl _) _).setCell (Nat.le_refl _) _).setCell (Nat.le_refl _) _).setCell (Nat.le_refl _) _
      · have e : (S == u) = false := by simpa using S2 m
        have e' : ¬ S = u := S2 m
        have HN2 := Lib.hid (HN' m)
        clear S1 S2 HN' D0 m
        cases U0 <;> cases U1 <;> cases U2
        all_goals
          simp only [if_true, if_false, Bool.false_eq_true, reduceIte] at T15 T43
          have K15 := Lib.hid T15
          have K43 := Lib.hid T43
          clear T15 T43
          go_wp2_with (first
            | (go_at_call 36; (with_reducible refine (K45.out _).mono ?_); rintro e w1 ⟨rfl, rfl⟩)
            | (go_at_call 37; (with_reducible refine (K53.out _).mono ?_); rintro e w1 ⟨rfl, n, rfl⟩)
            | (go_at_call 38; (with_reducible refine (K47a.out _).mono ?_); rintro e w1 ⟨rfl, rfl⟩)
            | (go_at_call 38; (with_reducible refine (K47b.out _).mono ?_); rintro e w1 ⟨rfl, rfl⟩)
            | (go_at_call 38; (with_reducible refine (K47c.out _).mono ?_); rintro e w1 ⟨rfl, rfl⟩)
            | (go_at_call 39; (with_reducible refine (R7.out _).mono ?_); rintro e w1 ⟨rfl, n, rfl⟩)
            | (go_at_call 39; (with_reducible refine (R15.out _).mono ?_); rintro e w1 ⟨rfl, n, rfl⟩)
            | (go_at_call 39; (with_reducible refine (R20.out _).mono ?_); rintro e w1 ⟨rfl, n, rfl⟩)
            | (go_at_call 40; (with_reducible refine (K15.out _).mono ?_); rintro e w2 ⟨rfl, hg⟩
               have a0 := cell_new hg 0 _ rfl
               have a1 := cell_new hg 1 _ rfl
               have a2 := cell_new hg 2 _ rfl
               have a3 := cell_new hg 3 _ rfl
               have a4 := cell_new hg 4 _ rfl
               have HW2 := Lib.hid (grown_new HW.out hg); clear hg)
            | (go_at_call 41; (with_reducible refine (K43.out _).mono ?_); rintro e w3 ⟨rfl, hg⟩
               skip
               have HW3 := Lib.hid (grown_trans HW2.out hg); clear hg))
          go_roundw
          case rel => exact ⟨k + 1, by omega, by omega, by go_num, HN2, HW3⟩
          case measure => simp [intOf]; omega
    · have hk4 : k = 46 := by omega
      subst hk4
      have HF := Lib.hid (find_zero u0 u1 HN.out)
      have z0 := zero_cell HW.out 0 (by decide)
      have z1 := zero_cell HW.out 1 (by decide)
      have z2 := zero_cell HW.out 2 (by decide)
      have z3 := zero_cell HW.out 3 (by decide)
      have z4 := zero_cell HW.out 4 (by decide)
      have y0 := new_frozen HW.out 0
      have y1 := new_frozen HW.out 1
      have y2 := new_frozen HW.out 2
      have y3 := new_frozen HW.out 3
      have y4 := new_frozen HW.out 4
      go_wp2
      refine bodyPost_ret (v := .tuple #[.agg #[.int .i64 0, .int .i64 0, .int .i64 0, .int .i64 0, .int .i64 0], .int .i64 3]) (by simp [results, Tryz.results31, go_sem, z0, z1, z2, z3, z4]) rfl (decP_ret (decV_none HF.out) ?_)
      exact ((((((grown_inner HW.out)).setCell (Nat.le_refl _) _).setCell (Nat.le_refl _) _).setCell (Nat.le_refl _) _).setCell (Nat.le_refl _) _).setCell (Nat.le_refl _) _
end Go.Proofs.YthhahfggbjegmaaGreat
