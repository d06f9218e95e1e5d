/-
  The contracts of the document's own Word and Encode. The contract of the document's own Decode: plain facts first: of each number the fields of a word are an instruction, whose word is that word just if the number's codes stand in it. The contract of the document's own Decode: the walk.
-/
import Derived.Test.YtlagdgkjpnocfaaGreatDoorQRef
namespace Go.Proofs.YtlagdgkjpnocfaaGreatDoor
open Go.RowKit
set_option linter.unusedVariables false
set_option linter.unusedSimpArgs false

theorem imm_in {f imm : Int} (hf : isForm f) (hn : f ≠ 0) (h : roomB f imm = true) : -2147483648 ≤ imm ∧ imm ≤ 2147479552 := by
  rcases hf with rfl | rfl | rfl | rfl | rfl | rfl | rfl | rfl <;> simp [roomB] at h <;> omega
theorem rvg73 (f n : Int) (hf : isForm f) (n0 : -2147483648 ≤ n) (n1 : n ≤ 4294967295) (w : World) :
    Calls Tryz.prog 83 #[.int .u8 f, .int .i64 n] w fun e w' => e = .returned (.int .i64 (scat f (n % 4294967296) 4)) ∧ Grown w w' :=
  (rv73 f n hf n0 n1 w).mono fun _ _ ⟨he, hd⟩ => ⟨he, drw_grown (Grown.refl _) hd⟩
theorem word_val {o t s rd r1 r2 c : Int} (o0 : 0 ≤ o) (o1 : o < 128) (t0 : 0 ≤ t) (t1 : t < 8) (s0 : 0 ≤ s) (s1 : s < 128) (d0 : 0 ≤ rd) (d1 : rd ≤ 31) (d2 : 0 ≤ r1) (d3 : r1 ≤ 31) (d4 : 0 ≤ r2) (d5 : r2 ≤ 31) (c0 : 0 ≤ c) (c1 : c ≤ 4294967295)
    (h : o + t * 4096 + s * 33554432 + rd * 128 + r1 * 32768 + r2 * 1048576 + c ≤ 4294967295) :
    IntKind.u32.wrap (IntKind.i64.wrap (IntKind.i64.wrap (IntKind.i64.wrap (IntKind.i64.wrap (IntKind.i64.wrap (IntKind.i64.wrap (o + IntKind.i64.wrap (rd * 128)) + IntKind.i64.wrap (t * 4096)) + IntKind.i64.wrap (r1 * 32768)) + IntKind.i64.wrap (r2 * 1048576)) + IntKind.i64.wrap (s * 33554432)) + c)) =
      o + t * 4096 + s * 33554432 + rd * 128 + r1 * 32768 + r2 * 1048576 + c := by
  rw [IntWalk.i64_in (rd * 128) (by omega), IntWalk.i64_in (t * 4096) (by omega), IntWalk.i64_in (r1 * 32768) (by omega), IntWalk.i64_in (r2 * 1048576) (by omega), IntWalk.i64_in (s * 33554432) (by omega),
    IntWalk.i64_in (o + rd * 128) (by omega), IntWalk.i64_in (o + rd * 128 + t * 4096) (by omega), IntWalk.i64_in (o + rd * 128 + t * 4096 + r1 * 32768) (by omega), IntWalk.i64_in (o + rd * 128 + t * 4096 + r1 * 32768 + r2 * 1048576) (by omega),
    IntWalk.i64_in (o + rd * 128 + t * 4096 + r1 * 32768 + r2 * 1048576 + s * 33554432) (by omega), IntWalk.i64_in (o + rd * 128 + t * 4096 + r1 * 32768 + r2 * 1048576 + s * 33554432 + c) (by omega), IntKind.wrap_u32]
  omega
set_option maxRecDepth 100000 in
set_option maxHeartbeats 8000000 in
theorem rv43 (k : Nat) (hk : k < 46) (k0 : k ≠ 0) (rd r1 r2 imm : Int) (h : fitsB rd r1 r2 imm (fm k) = true) (w : World) :
    Calls Tryz.prog 55 #[.agg #[.int .i64 k, .int .i64 rd, .int .i64 r1, .int .i64 r2, .int .i64 imm]] w fun e w' => e = .returned (.int .u32 (sumW k rd r1 r2 imm)) ∧ Grown w w' := by
  obtain ⟨⟨d0, d1⟩, ⟨d2, d3⟩, ⟨d4, d5⟩⟩ := fits_regs h
  have hf := fm_form' k hk
  have hn := fm_pos k hk k0
  have hr : roomB (fm k) imm = true := by
    unfold fitsB at h
    simp only [Bool.and_eq_true] at h
    rw [← room_all hf hn imm]; exact h.2
  obtain ⟨i0, i1⟩ := imm_in hf hn hr
  have HS := Lib.hid (sumW_in hk h)
  have HE : Hid (sumW k rd r1 r2 imm = oc k + f3 k * 4096 + f7 k * 33554432 + rd * 128 + r1 * 32768 + r2 * 1048576 + scat (fm k) (imm % 4294967296) 4) := Lib.hid rfl
  have K45 : Hid (∀ w, Calls Tryz.prog 18 #[.int .i64 k] w fun e w' => e = .returned (.int .u8 (fm k)) ∧ w = w') := Lib.hid (fun w => by have := c18 (k : Int) w; rwa [ix_nat hk] at this)
  have K69 := Lib.hid (rv69 k hk k0)
  have K71 := Lib.hid (rv71 k hk)
  have K72 := Lib.hid (rv72 k hk k0)
  have K73 := Lib.hid (rvg73 (fm k) imm hf i0 (by omega))
  have G0 : Grown w (w.alloc (.cells #[.int .i64 k, .int .i64 rd, .int .i64 r1, .int .i64 r2, .int .i64 imm] 28)) := (Grown.refl _).alloc _ _
  have z0 := row_cell w #[.int .i64 k, .int .i64 rd, .int .i64 r1, .int .i64 r2, .int .i64 imm] 28 0 (.int .i64 k) rfl
  have z1 := row_cell w #[.int .i64 k, .int .i64 rd, .int .i64 r1, .int .i64 r2, .int .i64 imm] 28 1 (.int .i64 rd) rfl
  have z2 := row_cell w #[.int .i64 k, .int .i64 rd, .int .i64 r1, .int .i64 r2, .int .i64 imm] 28 2 (.int .i64 r1) rfl
  have z3 := row_cell w #[.int .i64 k, .int .i64 rd, .int .i64 r1, .int .i64 r2, .int .i64 imm] 28 3 (.int .i64 r2) rfl
  have z4 := row_cell w #[.int .i64 k, .int .i64 rd, .int .i64 r1, .int .i64 r2, .int .i64 imm] 28 4 (.int .i64 imm) rfl
  have oi := oc_in k hk
  have ti := f3_in k hk
  have si := f7_in k hk
  have ci := scat_in (fm k) (imm % 4294967296)
  obtain ⟨o0, o1⟩ := oi
  obtain ⟨t0, t1⟩ := ti
  obtain ⟨s0, s1⟩ := si
  obtain ⟨c0, c1⟩ := ci
  clear h hf hn hr hk k0
  generalize sumW k rd r1 r2 imm = S at *
  generalize fm k = f at *
  generalize oc k = o at *
  generalize f3 k = t at *
  generalize f7 k = s at *
  generalize scat f (imm % 4294967296) 4 = c at *
  go_enter Tryz.func55, Tryz.ntmps55
  go_wp2_with (go_at_call 18; (with_reducible refine (K45.out _).mono ?_); rintro e w' ⟨rfl, rfl⟩)
  generalize w.alloc (.cells #[.int .i64 k, .int .i64 rd, .int .i64 r1, .int .i64 r2, .int .i64 imm] 28) = w2 at *
  generalize w.heap.size = b at *
  go_region_held3 (fun w' => Grown w w' ∧ w'.cell? ⟨b, 0, none⟩ = some (.int .i64 k) ∧ w'.cell? ⟨b, 1, none⟩ = some (.int .i64 rd) ∧ w'.cell? ⟨b, 2, none⟩ = some (.int .i64 r1) ∧ w'.cell? ⟨b, 3, none⟩ = some (.int .i64 r2) ∧ w'.cell? ⟨b, 4, none⟩ = some (.int .i64 imm))
      (first | exact ⟨G0, z0, z1, z2, z3, z4⟩ | assumption | exact keep5 (by assumption) (by assumption))
      (first
        | (go_at_call 80; refine (K69.out _).mono ?_; rintro e w' ⟨rfl, rfl⟩)
        | (go_at_call 79; refine (rv70 _ (by decide) (by decide) _).mono ?_; rintro e w' ⟨rfl, rfl⟩)
        | (go_at_call 81; refine (K71.out _).mono ?_; rintro e w' ⟨rfl, hg⟩)
        | (go_at_call 82; refine (K72.out _).mono ?_; rintro e w' ⟨rfl, rfl⟩)
        | (go_at_call 83; refine (K73.out _).mono ?_; rintro e w' ⟨rfl, hg⟩))
  have HG : Hid (Grown w w') := Lib.hid (keepG5 (by assumption))
  clear G0 z0 z1 z2 z3 z4
  go_wp2
  go_ret
  exact ⟨ret_int ((word_val o0 o1 t0 t1 s0 s1 d0 d1 d2 d3 d4 d5 c0 c1 (by have := HS.out; have := HE.out; omega)).trans HE.out.symm), HG.out⟩

theorem dec_fits {U : Int} (u0 : 0 ≤ U) (u1 : U ≤ 4294967295) {k : Nat} (hk : k < 46) (k0 : k ≠ 0) :
    fitsB (regV U 7 (uRd (fm k))) (regV U 15 (uRs1 (fm k))) (regV U 20 (uRs2 (fm k))) (gathS (fm k) U) (fm k) = true := by
  have hf := fm_form' k hk
  have hn := fm_pos k hk k0
  have g := gs_all hf u0 u1
  unfold fitsB
  simp only [Bool.and_eq_true, bne_iff_ne, beq_iff_eq]
  refine ⟨⟨⟨⟨hn, regB_V U 7 _⟩, regB_V U 15 _⟩, regB_V U 20 _⟩, ?_⟩
  show sg (signF (gath (fm k) (scat (fm k) (gathS (fm k) U % 4294967296) 4) 4) (immB (fm k))) = gathS (fm k) U
  rw [g]; rfl
theorem dec_mt {U : Int} (u0 : 0 ≤ U) (u1 : U ≤ 4294967295) {k : Nat} (hk : k < 46) (k0 : k ≠ 0) :
    Mt (encW k (regV U 7 (uRd (fm k))) (regV U 15 (uRs1 (fm k))) (regV U 20 (uRs2 (fm k))) (gathS (fm k) U)) k := by
  have hf := fm_form' k hk
  have hn := fm_pos k hk k0
  have B := back_all (m := gathS (fm k) U % 4294967296) hf hn (oc_in _ hk) (f3_in _ hk) (f7_in _ hk) (no3 _ hk) (no7 _ hk) (regB_V U 7 _) (regB_V U 15 _) (regB_V U 20 _) (by omega) (by omega)
  have e : bits .or .u32 (bits .or .u32 (fixF (oc k) (f3 k) (f7 k)) (bits .or .u32 (bits .or .u32 (regV U 7 (uRd (fm k)) * 128) (regV U 15 (uRs1 (fm k)) * 32768)) (regV U 20 (uRs2 (fm k)) * 1048576))) (scat (fm k) (gathS (fm k) U % 4294967296) 4) = encW k (regV U 7 (uRd (fm k))) (regV U 15 (uRs1 (fm k))) (regV U 20 (uRs2 (fm k))) (gathS (fm k) U) := by
    unfold encW fixK; rw [ix_nat hk]
  rw [e] at B
  obtain ⟨b0, b1, b2, b3, b4, b5, b6, b7, b8⟩ := B
  exact ⟨b2, b3, b4⟩
theorem dec_sum {U : Int} (u0 : 0 ≤ U) (u1 : U ≤ 4294967295) {k : Nat} (hk : k < 46) (k0 : k ≠ 0) (m : Mt U k) :
    sumW k (regV U 7 (uRd (fm k))) (regV U 15 (uRs1 (fm k))) (regV U 20 (uRs2 (fm k))) (gathS (fm k) U) = U := by
  rw [← enc_sum hk (dec_fits u0 u1 hk k0)]
  exact (dec_once u0 u1 hk k0 m).2
theorem dec_not {U : Int} (u0 : 0 ≤ U) (u1 : U ≤ 4294967295) {k : Nat} (hk : k < 46) (k0 : k ≠ 0) (m : ¬ Mt U k) :
    sumW k (regV U 7 (uRd (fm k))) (regV U 15 (uRs1 (fm k))) (regV U 20 (uRs2 (fm k))) (gathS (fm k) U) ≠ U := by
  rw [← enc_sum hk (dec_fits u0 u1 hk k0)]
  intro e
  have := dec_mt u0 u1 hk k0
  rw [e] at this
  exact m this
theorem mv_reg {U : Int} (u0 : 0 ≤ U) (u1 : U ≤ 4294967295) : mvF U 7 11 0 = regV U 7 true ∧ mvF U 15 19 0 = regV U 15 true ∧ mvF U 20 24 0 = regV U 20 true := by
  have E := Int.emod_eq_of_lt u0 (show U < 4294967296 by omega)
  refine ⟨?_, ?_, ?_⟩ <;> (unfold mvF; rw [E]; simp [regV])
/-- A register's field, moved. -/
theorem r54 (U a : Int) (u0 : 0 ≤ U) (u1 : U ≤ 4294967295) (ha : a = 7 ∨ a = 15 ∨ a = 20) (w : World) :
    Calls Tryz.prog 54 #[.int .i64 U, .int .i64 a, .int .i64 (a + 4), .int .i64 0] w fun e w' => e = .returned (.int .i64 (regV U a true)) ∧ ∃ n, w' = w.drewN n := by
  obtain ⟨x, y, z⟩ := mv_reg u0 u1
  rcases ha with rfl | rfl | rfl
  · rw [← x]; exact rv54 U 7 11 0 (by omega) u1 (by decide) (by decide) (by decide) (by decide) (by decide) w
  · rw [← y]; exact rv54 U 15 19 0 (by omega) u1 (by decide) (by decide) (by decide) (by decide) (by decide) w
  · rw [← z]; exact rv54 U 20 24 0 (by omega) u1 (by decide) (by decide) (by decide) (by decide) (by decide) w
/-- Is there a number below k whose codes stand in the word? -/
def NoMt (U : Int) (k : Nat) : Prop := ∀ i : Nat, i < k → i ≠ 0 → ¬ Mt U i
def zero30 : Array Value := #[.int .i64 0, .int .i64 0, .int .i64 0, .int .i64 0, .int .i64 0]
theorem find_zero {U : Int} (u0 : 0 ≤ U) (u1 : U ≤ 4294967295) (h : NoMt U 46) : findI U = 0 := by
  refine find_none (fun j hj => ?_)
  cases hb : mB U j with
  | false => rfl
  | true =>
    obtain ⟨j0, mj⟩ := (mB_iff U u0 u1 j hj).mp hb
    exact absurd mj (h j hj j0)

def decV (U : Int) : Value :=
  if findI U = 0 then .tuple #[.agg #[.int .i64 0, .int .i64 0, .int .i64 0, .int .i64 0, .int .i64 0], .int .i64 3]
  else .tuple #[.agg #[.int .i64 (findI U), .int .i64 (regV U 7 (uRd (fm (findI U)))), .int .i64 (regV U 15 (uRs1 (fm (findI U)))), .int .i64 (regV U 20 (uRs2 (fm (findI U)))), .int .i64 (gathS (fm (findI U)) U)], .int .i64 0]
theorem decV_none {U : Int} (h : findI U = 0) : decV U = .tuple #[.agg #[.int .i64 0, .int .i64 0, .int .i64 0, .int .i64 0, .int .i64 0], .int .i64 3] := by unfold decV; rw [if_pos h]
theorem decV_some {U : Int} {k : Nat} (h : findI U = k) (k0 : k ≠ 0) : decV U = .tuple #[.agg #[.int .i64 k, .int .i64 (regV U 7 (uRd (fm k))), .int .i64 (regV U 15 (uRs1 (fm k))), .int .i64 (regV U 20 (uRs2 (fm k))), .int .i64 (gathS (fm k) U)], .int .i64 0] := by
  unfold decV; rw [if_neg (by omega), h]
def DecP (U : Int) (w : World) (e : Ending) (w' : World) : Prop := e = .returned (decV U) ∧ Grown w w'
theorem decP_ret {U : Int} {w w' : World} {v : Value} (h : decV U = v) (hg : Grown w w') : DecP U w (.returned v) w' := ⟨by rw [h], hg⟩
theorem zero_cell {w w' : World} (h : Grown (w.alloc (.cells zero30 28)) w') (j : Nat) (hj : j < 5) : w'.cell? ⟨w.heap.size, j, none⟩ = some (.int .i64 0) := by
  refine grown_cell h (row_cell w zero30 28 j _ ?_)
  match j, hj with
  | 0, _ | 1, _ | 2, _ | 3, _ | 4, _ => rfl
  | n + 5, hn => exact absurd hn (by omega)
theorem grown_inner {w w' : World} {cs : Array Value} {t : TypeId} (h : Grown (w.alloc (.cells cs t)) w') : Grown w w' := grown_trans ((Grown.refl _).alloc _ _) h

theorem cell_new {wr w2 : World} {X : Array Value} {t : TypeId} {n : Nat} (hg : Grown ((wr.alloc (.cells X t)).drewN n) w2) (j : Nat) (v : Value) (h : X[j]? = some v) : w2.cell? ⟨wr.heap.size, j, none⟩ = some v :=
  grown_cell hg (show (wr.alloc (.cells X t)).cell? _ = _ from row_cell wr X t j v h)
theorem grown_new {Z wr w2 : World} {X : Array Value} {t : TypeId} {n : Nat} (h : Grown Z wr) (hg : Grown ((wr.alloc (.cells X t)).drewN n) w2) : Grown Z w2 :=
  grown_trans (grown_drewN (h.alloc X t) n) hg
theorem reg_if (U a : Int) (b : Bool) : regV U a b = if b = true then regV U a true else 0 := by cases b <;> simp [regV]
set_option maxRecDepth 100000 in
set_option maxHeartbeats 8000000 in
theorem rv17 (u : Int) (u0 : 0 ≤ u) (u1 : u ≤ 4294967295) (w : World) :
    Calls Tryz.prog 32 #[.int .u32 u] w (DecP u w) := by
  have R7 : Hid (∀ w, Calls Tryz.prog 54 #[.int .i64 u, .int .i64 7, .int .i64 11, .int .i64 0] w fun e w' => e = .returned (.int .i64 (regV u 7 true)) ∧ ∃ n, w' = w.drewN n) := Lib.hid (r54 u 7 u0 u1 (by simp))
  have R15 : Hid (∀ w, Calls Tryz.prog 54 #[.int .i64 u, .int .i64 15, .int .i64 19, .int .i64 0] w fun e w' => e = .returned (.int .i64 (regV u 15 true)) ∧ ∃ n, w' = w.drewN n) := Lib.hid (r54 u 15 u0 u1 (by simp))
  have R20 : Hid (∀ w, Calls Tryz.prog 54 #[.int .i64 u, .int .i64 20, .int .i64 24, .int .i64 0] w fun e w' => e = .returned (.int .i64 (regV u 20 true)) ∧ ∃ n, w' = w.drewN n) := Lib.hid (r54 u 20 u0 u1 (by simp))
  have HG := Lib.hid (Grown.refl (w.alloc (.cells zero30 28)))
  have hda : ∀ (w : World) (n : Nat) (o : Obj), (w.drewN n).alloc o = (w.alloc o).drewN n := fun _ _ _ => rfl
  have hds : ∀ (w : World) (n : Nat) (a : Addr) (v : Value), (w.drewN n).setCell a v = (w.setCell a v).drewN n := fun _ _ _ _ => rfl
  go_enter Tryz.func32, Tryz.ntmps32
  go_wp2
  go_loopw [5] (fun j wr => ∃ k : Nat, 1 ≤ k ∧ k ≤ 46 ∧ j = .int .i64 k ∧ Hid (NoMt u k) ∧ Hid (Grown (w.alloc (.cells zero30 28)) wr)) (fun j _ => 46 - (intOf j).toNat)
  case atStart => exact ⟨1, by omega, by omega, rfl, Lib.hid (fun i hi hi0 => absurd hi (by omega)), HG⟩
  case round =>
    obtain ⟨k, hk1, hk, rfl, HN, HW⟩ := hrel
    clear HG
    by_cases hlt : k < 46
    · have k0 : k ≠ 0 := by omega
      have hf := fm_form' k hlt
      have hn := fm_pos k hlt k0
      have fit := dec_fits u0 u1 hlt k0
      have D0 : Mt u k → decV u = _ := fun m => decV_some (find_is u0 u1 hlt k0 m) k0
      have S1 := dec_sum u0 u1 hlt k0
      have S2 := dec_not u0 u1 hlt k0
      have HN' : ¬ Mt u k → NoMt u (k + 1) := fun m i hi hi0 => by
        by_cases h : i = k
        · subst h; exact m
        · exact HN.out i (by omega) hi0
      have T45 : ∀ w, Calls Tryz.prog 18 #[.int .i64 k] w fun e w' => e = .returned (.int .u8 (fm k)) ∧ w = w' := fun w => by have := c18 (k : Int) w; rwa [ix_nat hlt] at this
      have T15 := rv15 (k : Int) (regV u 7 (uRd (fm k))) (regV u 15 (uRs1 (fm k))) (regV u 20 (uRs2 (fm k))) (gathS (fm k) u)
      rw [ix_nat hlt, fit] at T15
      have T43 := rv43 k hlt k0 _ _ _ _ fit
      have T53 : ∀ w, Calls Tryz.prog 53 #[.int .u8 (fm k), .int .i64 u] w fun e w' => e = .returned (.int .i64 (gathS (fm k) u)) ∧ ∃ n, w' = w.drewN n := rv53 (fm k) u hf u0 u1
      have T47a := rv47a (fm k) hf hn
      have T47b := rv47b (fm k) hf hn
      have T47c := rv47c (fm k) hf hn
      rw [reg_if u 7, reg_if u 15, reg_if u 20] at D0 S1 S2 T15 T43
      clear fit hf hn k0
      generalize sumW k _ _ _ _ = S at *
      generalize gathS (fm k) u = T at *
      generalize regV u 7 true = A at *
      generalize regV u 15 true = B at *
      generalize regV u 20 true = C at *
      generalize uRd (fm k) = U0 at *
      generalize uRs1 (fm k) = U1 at *
      generalize uRs2 (fm k) = U2 at *
      generalize fm k = f at *
      have K45 := Lib.hid T45
      have K53 := Lib.hid T53
      have K47a := Lib.hid T47a
      have K47b := Lib.hid T47b
      have K47c := Lib.hid T47c
      clear T45 T53 T47a T47b T47c
      by_cases m : Mt u k
      · have e : S = u := S1 m
        subst e
        have HD := D0 m
        clear S1 S2 HN' D0 m
        cases U0 <;> cases U1 <;> cases U2
        all_goals
          simp only [if_true, if_false, Bool.false_eq_true, reduceIte] at T15 T43 HD
          have K15 := Lib.hid T15
          have K43 := Lib.hid T43
          have HF := Lib.hid HD
          clear T15 T43 HD
          go_wp2_with (first
            | (go_at_call 18; (with_reducible refine (K45.out _).mono ?_); rintro e w1 ⟨rfl, rfl⟩)
            | (go_at_call 53; (with_reducible refine (K53.out _).mono ?_); rintro e w1 ⟨rfl, n, rfl⟩)
            | (go_at_call 20; (with_reducible refine (K47a.out _).mono ?_); rintro e w1 ⟨rfl, rfl⟩)
            | (go_at_call 20; (with_reducible refine (K47b.out _).mono ?_); rintro e w1 ⟨rfl, rfl⟩)
            | (go_at_call 20; (with_reducible refine (K47c.out _).mono ?_); rintro e w1 ⟨rfl, rfl⟩)
            | (go_at_call 54; (with_reducible refine (R7.out _).mono ?_); rintro e w1 ⟨rfl, n, rfl⟩)
            | (go_at_call 54; (with_reducible refine (R15.out _).mono ?_); rintro e w1 ⟨rfl, n, rfl⟩)
            | (go_at_call 54; (with_reducible refine (R20.out _).mono ?_); rintro e w1 ⟨rfl, n, rfl⟩)
            | (go_at_call 9; (with_reducible refine (K15.out _).mono ?_); rintro e w2 ⟨rfl, hg⟩
               have a0 := cell_new hg 0 _ rfl
               have a1 := cell_new hg 1 _ rfl
               have a2 := cell_new hg 2 _ rfl
               have a3 := cell_new hg 3 _ rfl
               have a4 := cell_new hg 4 _ rfl
               have HW2 := Lib.hid (grown_new HW.out hg); clear hg)
            | (go_at_call 55; (with_reducible refine (K43.out _).mono ?_); rintro e w3 ⟨rfl, hg⟩
               have b0 := grown_cell hg a0
               have b1 := grown_cell hg a1
               have b2 := grown_cell hg a2
               have b3 := grown_cell hg a3
               have b4 := grown_cell hg a4
               have hG := grown_trans HW2.out hg
               have z0 := zero_cell hG 0 (by decide)
               have z1 := zero_cell hG 1 (by decide)
               have z2 := zero_cell hG 2 (by decide)
               have z3 := zero_cell hG 3 (by decide)
               have z4 := zero_cell hG 4 (by decide)
               have y0 := new_frozen hG 0
               have y1 := new_frozen hG 1
               have y2 := new_frozen hG 2
               have y3 := new_frozen hG 3
               have y4 := new_frozen hG 4
               clear hG
               have HW3 := Lib.hid (grown_trans HW2.out hg); clear hg))
          refine bodyPost_ret (v := .tuple #[.agg #[.int .i64 k, _, _, _, .int .i64 T], .int .i64 0]) (by simp [results, Tryz.results32, go_sem, z0, z1, z2, z3, z4]) rfl (decP_ret HF.out ?_)
          exact ((((((grown_inner HW3.out)).setCell (Nat.le_refl _) _).setCell (Nat.le_refl _) _).setCell (Nat.le_refl _) _).setCell (Nat.le_refl _) _).setCell (Nat.le_refl _) _
      · have e : (S == u) = false := by simpa using S2 m
        have e' : ¬ S = u := S2 m
        have HN2 := Lib.hid (HN' m)
        clear S1 S2 HN' D0 m
        cases U0 <;> cases U1 <;> cases U2
        all_goals
          simp only [if_true, if_false, Bool.false_eq_true, reduceIte] at T15 T43
          have K15 := Lib.hid T15
          have K43 := Lib.hid T43
          clear T15 T43
          go_wp2_with (first
            | (go_at_call 18; (with_reducible refine (K45.out _).mono ?_); rintro e w1 ⟨rfl, rfl⟩)
            | (go_at_call 53; (with_reducible refine (K53.out _).mono ?_); rintro e w1 ⟨rfl, n, rfl⟩)
            | (go_at_call 20; (with_reducible refine (K47a.out _).mono ?_); rintro e w1 ⟨rfl, rfl⟩)
            | (go_at_call 20; (with_reducible refine (K47b.out _).mono ?_); rintro e w1 ⟨rfl, rfl⟩)
            | (go_at_call 20; (with_reducible refine (K47c.out _).mono ?_); rintro e w1 ⟨rfl, rfl⟩)
            | (go_at_call 54; (with_reducible refine (R7.out _).mono ?_); rintro e w1 ⟨rfl, n, rfl⟩)
            | (go_at_call 54; (with_reducible refine (R15.out _).mono ?_); rintro e w1 ⟨rfl, n, rfl⟩)
            | (go_at_call 54; (with_reducible refine (R20.out _).mono ?_); rintro e w1 ⟨rfl, n, rfl⟩)
            | (go_at_call 9; (with_reducible refine (K15.out _).mono ?_); rintro e w2 ⟨rfl, hg⟩
               have a0 := cell_new hg 0 _ rfl
               have a1 := cell_new hg 1 _ rfl
               have a2 := cell_new hg 2 _ rfl
               have a3 := cell_new hg 3 _ rfl
               have a4 := cell_new hg 4 _ rfl
               have HW2 := Lib.hid (grown_new HW.out hg); clear hg)
            | (go_at_call 55; (with_reducible refine (K43.out _).mono ?_); rintro e w3 ⟨rfl, hg⟩
               skip
               have HW3 := Lib.hid (grown_trans HW2.out hg); clear hg))
          go_roundw
          case rel => exact ⟨k + 1, by omega, by omega, by go_num, HN2, HW3⟩
          case measure => simp [intOf]; omega
    · have hk4 : k = 46 := by omega
      subst hk4
      have HF := Lib.hid (find_zero u0 u1 HN.out)
      have z0 := zero_cell HW.out 0 (by decide)
      have z1 := zero_cell HW.out 1 (by decide)
      have z2 := zero_cell HW.out 2 (by decide)
      have z3 := zero_cell HW.out 3 (by decide)
      have z4 := zero_cell HW.out 4 (by decide)
      have y0 := new_frozen HW.out 0
      have y1 := new_frozen HW.out 1
      have y2 := new_frozen HW.out 2
      have y3 := new_frozen HW.out 3
      have y4 := new_frozen HW.out 4
      go_wp2
      refine bodyPost_ret (v := .tuple #[.agg #[.int .i64 0, .int .i64 0, .int .i64 0, .int .i64 0, .int .i64 0], .int .i64 3]) (by simp [results, Tryz.results32, go_sem, z0, z1, z2, z3, z4]) rfl (decP_ret (decV_none HF.out) ?_)
      exact ((((((grown_inner HW.out)).setCell (Nat.le_refl _) _).setCell (Nat.le_refl _) _).setCell (Nat.le_refl _) _).setCell (Nat.le_refl _) _).setCell (Nat.le_refl _) _
end Go.Proofs.YtlagdgkjpnocfaaGreatDoor
