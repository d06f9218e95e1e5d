/-
  Items (layer 5): Assemble where a label stands twice or nowhere. Items (layer 5): the labels of both assemblers are the same list. Items (layer 5): both assemblers answer the same.
-/
import Derived.Test.YtnjlcimeaoedcaaQIn4
import Derived.Test.YtnjlcimeaoedcaaQAxA
namespace Go.Proofs.Ytnjlcimeaoedcaa
open Go.RowKit
set_option linter.unusedVariables false
set_option linter.unusedSimpArgs false
set_option maxRecDepth 100000 in
set_option maxHeartbeats 8000000 in
theorem asm_twice (a : Option Addr) (c : Nat) (l : List It) (hfew : l.length ≤ 32768) (hright : ∀ k, k < l.length → rightB (l.getD k it0) = true) (htw : twiceK l l.length = true) (w : World) (hat : ItAt w.heap.size w a l) :
    Calls Try.prog 7 #[.slice a l.length c] w fun e w' => e = .returned (.tuple #[.slice none 0 0, .slice none 0 0, .int .i64 6]) ∧ Fr (fun _ => False) w w' := by
  have HDEF : Hid (∀ w3, Fr (fun _ => False) w w3 → Calls Try.prog 19 #[.slice a l.length c] w3 fun e w4 => Fr (fun _ => False) w3 w4 ∧ e = .returned (.tuple #[.map none, .int .i64 6])) := Lib.hid (fun w3 hf =>
    (c19 a l.length c l rfl hfew (fun k hk e => (right_lab (hright k hk)).1 e) w3 ((hat.fr hf (fun _ h => h.elim)).mono hf.size)).mono (fun e w4 h => ⟨h.1, by
      have h2 := h.2
      rwa [if_pos htw] at h2⟩))
  have HA := Lib.hid hat
  have HRT := Lib.hid hright
  clear hat hright
  obtain ⟨n, hn⟩ : ∃ n, l.length = n := ⟨_, rfl⟩
  have HN := Lib.hid hn
  rw [hn] at hfew HDEF ⊢
  have d1 : decide ((32768 : Int) < n) = false := decide_eq_false (by omega)
  clear hn
  go_enter Try.func7, Try.ntmps7
  go_wp2
  go_loopw [17] (fun i wr => ∃ k : Nat, i = .int .i64 k ∧ k ≤ n ∧ Hid (Fr (fun _ => False) w wr)) (fun i _ => n - (intOf i).toNat)
  case atStart => exact ⟨0, rfl, Nat.zero_le _, Lib.hid (Fr.refl _ _)⟩
  case round =>
    obtain ⟨k, rfl, hk, HW⟩ := hrel
    by_cases hlt : k < n
    · obtain ⟨x, hx⟩ : ∃ x, l.getD k it0 = x := ⟨_, rfl⟩
      obtain ⟨g, o, rfl, hg, c0, c1, c2, c3, c4, c5, c6⟩ := HA.out.get HW.out (fun _ h => h.elim) k (by rw [HN.out]; exact hlt) x hx
      have F1 : Hid (Fr (fun _ => False) wr (wr.alloc (.cells #[.int .i64 x.k, .int .i64 x.op, .int .i64 x.rd, .int .i64 x.r1, .int .i64 x.r2, .int .i64 x.imm, .int .i64 x.lab] 40))) := Lib.hid (fr_al (Fr.refl _ _) _)
      have HR := Lib.hid (c18 x)
      have hr := HRT.out k (by rw [HN.out]; exact hlt)
      rw [hx] at hr
      rw [hr] at HR
      clear hx hr
      go_wp2_with (go_at_call 18; (with_reducible refine (HR.out _).mono ?_); rintro e w2 ⟨rfl, hgr⟩; have F2 := Lib.hid (F1.out.trans (Fr.of_grown hgr)); clear hgr)
      go_roundw
      case rel => exact ⟨k + 1, by go_num, by omega, Lib.hid (HW.out.trans F2.out)⟩
      case measure => simp [intOf]; omega
    · go_wp2_with (first
        | (go_at_call 19; (with_reducible refine (HDEF.out _ HW.out).mono ?_); rintro e w2 ⟨hf2, rfl⟩; have F2 := Lib.hid (HW.out.trans hf2); clear hf2))
      go_ret3
      exact ⟨rfl, F2.out⟩
set_option maxRecDepth 100000 in
set_option maxHeartbeats 8000000 in
theorem asm_lack (a : Option Addr) (c : Nat) (l : List It) (hfew : l.length ≤ 32768) (hright : ∀ k, k < l.length → rightB (l.getD k it0) = true) (htw : twiceK l l.length = false) (hlk : lackK l (accL l) l.length = true) (w : World) (hat : ItAt w.heap.size w a l) :
    Calls Try.prog 7 #[.slice a l.length c] w fun e w' => e = .returned (.tuple #[.slice none 0 0, .slice none 0 0, .int .i64 4]) ∧ Fr (fun _ => False) w w' := by
  have hap := apartL_labs l l.length htw
  have HDEF : Hid (∀ w3, Fr (fun _ => False) w w3 → Calls Try.prog 19 #[.slice a l.length c] w3 fun e w4 => Fr (fun _ => False) w3 w4 ∧ ∃ B, e = .returned (.tuple #[.map (some B), .int .i64 0]) ∧ ownsL w4 B (accL l)) := Lib.hid (fun w3 hf =>
    (c19 a l.length c l rfl hfew (fun k hk e => (right_lab (hright k hk)).1 e) w3 ((hat.fr hf (fun _ h => h.elim)).mono hf.size)).mono (fun e w4 h => ⟨h.1, by
      have h2 := h.2
      rw [if_neg (by rw [htw]; decide)] at h2
      obtain ⟨B, e1, _, e3⟩ := h2
      exact ⟨B, e1, e3⟩⟩))
  have HRES : Hid (∀ w3 B, Fr (fun _ => False) w w3 → ownsL w3 B (accL l) → Calls Try.prog 20 #[.slice a l.length c, .map (some B)] w3 fun e w4 => Fr (fun _ => False) w3 w4 ∧ e = .returned (.tuple #[.slice none 0 0, .int .i64 4])) := Lib.hid (fun w3 B hf ho =>
    (c20 a l.length c l (accL l) B rfl hfew hap (fun k hk e => (right_lab (hright k hk)).2 e) w3 ((hat.fr hf (fun _ h => h.elim)).mono hf.size) ho).mono (fun e w4 h => ⟨h.1, by
      have h2 := h.2
      rwa [if_pos hlk] at h2⟩))
  have HA := Lib.hid hat
  have HRT := Lib.hid hright
  clear hat hright
  obtain ⟨n, hn⟩ : ∃ n, l.length = n := ⟨_, rfl⟩
  have HN := Lib.hid hn
  rw [hn] at hfew HDEF HRES ⊢
  have d1 : decide ((32768 : Int) < n) = false := decide_eq_false (by omega)
  clear hn
  go_enter Try.func7, Try.ntmps7
  go_wp2
  go_loopw [17] (fun i wr => ∃ k : Nat, i = .int .i64 k ∧ k ≤ n ∧ Hid (Fr (fun _ => False) w wr)) (fun i _ => n - (intOf i).toNat)
  case atStart => exact ⟨0, rfl, Nat.zero_le _, Lib.hid (Fr.refl _ _)⟩
  case round =>
    obtain ⟨k, rfl, hk, HW⟩ := hrel
    by_cases hlt : k < n
    · obtain ⟨x, hx⟩ : ∃ x, l.getD k it0 = x := ⟨_, rfl⟩
      obtain ⟨g, o, rfl, hg, c0, c1, c2, c3, c4, c5, c6⟩ := HA.out.get HW.out (fun _ h => h.elim) k (by rw [HN.out]; exact hlt) x hx
      have F1 : Hid (Fr (fun _ => False) wr (wr.alloc (.cells #[.int .i64 x.k, .int .i64 x.op, .int .i64 x.rd, .int .i64 x.r1, .int .i64 x.r2, .int .i64 x.imm, .int .i64 x.lab] 40))) := Lib.hid (fr_al (Fr.refl _ _) _)
      have HR := Lib.hid (c18 x)
      have hr := HRT.out k (by rw [HN.out]; exact hlt)
      rw [hx] at hr
      rw [hr] at HR
      clear hx hr
      go_wp2_with (go_at_call 18; (with_reducible refine (HR.out _).mono ?_); rintro e w2 ⟨rfl, hgr⟩; have F2 := Lib.hid (F1.out.trans (Fr.of_grown hgr)); clear hgr)
      go_roundw
      case rel => exact ⟨k + 1, by go_num, by omega, Lib.hid (HW.out.trans F2.out)⟩
      case measure => simp [intOf]; omega
    · go_wp2_with (first
        | (go_at_call 19; (with_reducible refine (HDEF.out _ HW.out).mono ?_); rintro e w2 ⟨hf2, B, rfl, ho2⟩; have F2 := Lib.hid (HW.out.trans hf2); have O2 := Lib.hid ho2; clear hf2 ho2)
        | (go_at_call 20; (with_reducible refine (HRES.out _ B F2.out O2.out).mono ?_); rintro e w3 ⟨hf3, rfl⟩; have F3 := Lib.hid (F2.out.trans hf3); clear hf3))
      go_ret3
      exact ⟨rfl, F3.out⟩
theorem getD_app {xs ys : List Int} {j : Nat} : (xs ++ ys).getD j 0 = if j < xs.length then xs.getD j 0 else ys.getD (j - xs.length) 0 := by
  simp only [List.getD_eq_getElem?_getD]
  by_cases h : j < xs.length
  · rw [if_pos h, List.getElem?_append_left h]
  · rw [if_neg h, List.getElem?_append_right (by omega)]
theorem getD_rep {m j : Nat} (h : j < m) : (List.replicate m (-1 : Int)).getD j 0 = -1 := by
  simp [List.getD_eq_getElem?_getD, h]
theorem getDL_set {xs : List Int} {n j : Nat} {v : Int} (hn : n < xs.length) : (xs.set n v).getD j 0 = if j = n then v else xs.getD j 0 := by
  simp only [List.getD_eq_getElem?_getD, List.getElem?_set]
  by_cases h : n = j
  · subst h; simp [hn]
  · rw [if_neg h, if_neg (fun e => h e.symm)]
theorem getD_ext {xs : List Int} {m j : Nat} (h : j < max xs.length m) : (extL xs m).getD j 0 = if j < xs.length then xs.getD j 0 else -1 := by
  unfold extL
  rw [getD_app]
  split
  · rfl
  · exact getD_rep (by omega)
structure LabOk (acc : List (Int × Nat)) (s : List Int) (L : List Int) : Prop where
  len : ∀ j : Nat, j < L.length ↔ ∃ b : Nat, j ≤ b ∧ hasL acc (b : Int) = true
  val : ∀ j : Nat, j < L.length → L.getD j 0 = if hasL acc (j : Int) = true then 4 * sumK s (valL acc (j : Int)) else -1
theorem labD_ok (l : List It) (s : List Int) (hr : ∀ k, k < l.length → rightB (l.getD k it0) = true) : ∀ k, k ≤ l.length → twiceK l k = false → LabOk (labsK l k) s (labD l s k)
  | 0, _, _ => ⟨fun j => ⟨fun h => by simp [labD] at h, fun ⟨b, _, h⟩ => by simp [labsK, hasL] at h⟩, fun j h => by simp [labD] at h⟩
  | k + 1, hk, ht => by
    have f : labsK l (k + 1) = if (l.getD k it0).k = 2 then labsK l k ++ [((l.getD k it0).lab, k)] else labsK l k := rfl
    have ft : twiceK l (k + 1) = (twiceK l k || ((l.getD k it0).k == 2 && hasL (labsK l k) (l.getD k it0).lab)) := rfl
    have fl : labD l s (k + 1) = if (l.getD k it0).k = 2 then (extL (labD l s k) ((l.getD k it0).lab.toNat + 1)).set (l.getD k it0).lab.toNat (4 * sumK s k) else labD l s k := rfl
    have hrk := hr k (by omega)
    rw [ft, Bool.or_eq_false_iff] at ht
    obtain ⟨i1, i2⟩ := labD_ok l s hr k (by omega) ht.1
    generalize l.getD k it0 = x at *
    by_cases h2 : x.k = 2
    · have hlb := (right_lab hrk).1 h2
      unfold labB at hlb
      simp only [Bool.and_eq_true, decide_eq_true_eq] at hlb
      obtain ⟨n, hn⟩ : ∃ n : Nat, x.lab = (n : Int) := ⟨x.lab.toNat, by omega⟩
      rw [if_pos h2, hn] at f fl
      rw [Int.toNat_natCast] at fl
      have hh : hasL (labsK l k) (n : Int) = false := by
        have := ht.2
        rw [hn, h2] at this
        simpa using this
      rw [f, fl]
      generalize labsK l k = acc at *
      generalize labD l s k = L at *
      have hex : n < (extL L (n + 1)).length := by rw [extL_len]; omega
      refine ⟨fun j => ?_, fun j hj => ?_⟩
      · rw [List.length_set, extL_len]
        constructor
        · intro h
          by_cases hj : j < L.length
          · obtain ⟨b, q1, q2⟩ := (i1 j).1 hj
            exact ⟨b, q1, by rw [hasL_snoc, q2]; rfl⟩
          · exact ⟨n, by omega, by rw [hasL_snoc]; simp⟩
        · rintro ⟨b, q1, q2⟩
          rw [hasL_snoc, Bool.or_eq_true] at q2
          rcases q2 with q2 | q2
          · have := (i1 j).2 ⟨b, q1, q2⟩; omega
          · have : (n : Int) = (b : Int) := by simpa using q2
            omega
      · rw [List.length_set, extL_len] at hj
        rw [getDL_set hex, hasL_snoc]
        by_cases hjn : j = n
        · subst hjn
          rw [if_pos rfl, if_pos (by simp), valL_snoc_same hh]
        · rw [if_neg hjn, getD_ext hj]
          have hne : ((n : Int) == (j : Int)) = false := by simp; omega
          rw [hne, Bool.or_false]
          by_cases hjl : j < L.length
          · rw [if_pos hjl, i2 j hjl]
            by_cases hb : hasL acc (j : Int) = true
            · rw [if_pos hb, if_pos hb, valL_snoc_other hb]
            · rw [if_neg hb, if_neg hb]
          · rw [if_neg hjl, if_neg]
            intro hb
            exact hjl ((i1 j).2 ⟨j, Nat.le_refl _, hb⟩)
    · rw [if_neg h2] at f fl
      rw [f, fl]
      exact ⟨i1, i2⟩
theorem addrK_ok (acc : List (Int × Nat)) (s : List Int) (hv : ∀ b, hasL acc b = true → valL acc b < s.length) : ∀ n : Nat, (∀ j : Nat, j < (addrK acc s n).length ↔ ∃ b : Nat, j ≤ b ∧ b < n ∧ hasL acc (b : Int) = true) ∧ (∀ j : Nat, j < (addrK acc s n).length → (addrK acc s n).getD j 0 = if hasL acc (j : Int) = true then 4 * sumK s (valL acc (j : Int)) else -1)
  | 0 => ⟨fun j => ⟨fun h => by simp [addrK] at h, fun ⟨b, _, h, _⟩ => by omega⟩, fun j h => by simp [addrK] at h⟩
  | n + 1 => by
    obtain ⟨i1, i2⟩ := addrK_ok acc s hv n
    have hl := addrK_len acc s n
    have f : addrK acc s (n + 1) = if hasL acc n = true then addrK acc s n ++ List.replicate (n - (addrK acc s n).length) (-1) ++ [(atK s).getD (valL acc n) 0] else addrK acc s n := rfl
    rw [f]
    generalize addrK acc s n = L at *
    by_cases h : hasL acc (n : Int) = true
    · rw [if_pos h]
      have hll : (L ++ List.replicate (n - L.length) (-1) ++ [(atK s).getD (valL acc n) 0]).length = n + 1 := by simp; omega
      refine ⟨fun j => ?_, fun j hj => ?_⟩
      · rw [hll]
        exact ⟨fun q => ⟨n, by omega, by omega, h⟩, fun ⟨b, q1, q2, _⟩ => by omega⟩
      · rw [hll] at hj
        rw [getD_app]
        have hpl : (L ++ List.replicate (n - L.length) (-1)).length = n := by simp; omega
        rw [hpl]
        by_cases hjn : j < n
        · rw [if_pos hjn, getD_app]
          by_cases hjl : j < L.length
          · rw [if_pos hjl, i2 j hjl]
          · rw [if_neg hjl, getD_rep (by omega), if_neg]
            intro hb
            exact hjl ((i1 j).2 ⟨j, Nat.le_refl _, hjn, hb⟩)
        · have : j = n := by omega
          subst this
          rw [if_neg hjn, if_pos h, Nat.sub_self, atK_get (hv _ h)]
          rfl
    · rw [if_neg h]
      refine ⟨fun j => ?_, i2⟩
      rw [i1 j]
      constructor
      · rintro ⟨b, q1, q2, q3⟩; exact ⟨b, q1, by omega, q3⟩
      · rintro ⟨b, q1, q2, q3⟩
        refine ⟨b, q1, ?_, q3⟩
        rcases Nat.lt_or_ge b n with q | q
        · exact q
        · have : b = n := by omega
          subst this
          exact absurd q3 h
theorem labs_lt (l : List It) (hr : ∀ k, k < l.length → rightB (l.getD k it0) = true) {b : Nat} (h : hasL (accL l) (b : Int) = true) : b < 4096 := by
  obtain ⟨j, hj, h2, he⟩ := (has_labs l (b : Int) l.length).1 h
  have := (right_lab (hr j hj)).1 h2
  unfold labB at this
  simp only [Bool.and_eq_true, decide_eq_true_eq] at this
  omega
theorem labs_same (l : List It) (hr : ∀ k, k < l.length → rightB (l.getD k it0) = true) (ht : twiceK l l.length = false) : addrK (accL l) (szF l (farL l)) 4096 = labD l (szF l (farL l)) l.length := by
  have hsl : (szF l (farL l)).length = l.length := szF_len l _
  obtain ⟨a1, a2⟩ := addrK_ok (accL l) (szF l (farL l)) (fun b hb => by rw [hsl]; exact val_ok l b hb) 4096
  obtain ⟨b1, b2⟩ := labD_ok l (szF l (farL l)) hr l.length (Nat.le_refl _) ht
  have e : ∀ j : Nat, j < (addrK (accL l) (szF l (farL l)) 4096).length ↔ j < (labD l (szF l (farL l)) l.length).length := fun j => by
    rw [a1 j, b1 j]
    exact ⟨fun ⟨b, q1, _, q3⟩ => ⟨b, q1, q3⟩, fun ⟨b, q1, q3⟩ => ⟨b, q1, labs_lt l hr q3, q3⟩⟩
  have hlen : (addrK (accL l) (szF l (farL l)) 4096).length = (labD l (szF l (farL l)) l.length).length := by
    generalize (addrK (accL l) (szF l (farL l)) 4096).length = p at *
    generalize (labD l (szF l (farL l)) l.length).length = q at *
    rcases Nat.lt_trichotomy p q with h | h | h
    · have := (e p).2 h; omega
    · exact h
    · have := (e q).1 h; omega
  refine List.ext_getElem hlen fun j h1 h2 => ?_
  have x1 := a2 j h1
  have x2 := b2 j h2
  rw [← x2] at x1
  simpa [List.getD_eq_getElem?_getD, h1, h2] using x1
theorem right_fit {l : List It} (hr : ∀ k, k < l.length → rightB (l.getD k it0) = true) : Fit l := fun k hk => by
  have h := hr k hk
  generalize l.getD k it0 = x at *
  rcases right_kind h with e | e | e | e | e
  · have hf := right_1 h e
    unfold fitI fitsB at hf
    simp only [Bool.and_eq_true, bne_iff_ne] at hf
    have hix : ix x.op < 46 := by unfold ix; split <;> omega
    have hfm := fm_form' (ix x.op) hix
    have hro := hf.2
    rw [room_all hfm hf.1.1.1.1] at hro
    have := imm_in hfm hf.1.1.1.1 hro
    omega
  · unfold rightB at h
    rw [if_neg (by omega), if_pos e] at h
    simp only [Bool.and_eq_true, beq_iff_eq] at h
    omega
  · obtain ⟨_, _, _, _, h5, _⟩ := right_3 h e; omega
  · obtain ⟨_, _, _, _, h5, _⟩ := right_4 h e; omega
  · obtain ⟨_, h1, h2, _⟩ := right_5 h e; omega
def CellsU (ws : List Int) (w : World) (a : Option Addr) : Prop := ∀ k, k < ws.length → ∃ g, a = some ⟨g, 0, none⟩ ∧ w.cell? ⟨g, k, none⟩ = some (.int .u32 (ws.getD k 0))
def CellsI (ls : List Int) (w : World) (a : Option Addr) : Prop := ∀ k, k < ls.length → ∃ g, a = some ⟨g, 0, none⟩ ∧ w.cell? ⟨g, k, none⟩ = some (.int .i64 (ls.getD k 0))
theorem CellsU.fr {ws : List Int} {w w' : World} {a : Option Addr} (h : CellsU ws w a) (hf : Fr (fun _ => False) w w') : CellsU ws w' a := fun k hk => by
  obtain ⟨g, e, c⟩ := h k hk
  exact ⟨g, e, hf.cell c id⟩
theorem CellsI.fr {ws : List Int} {w w' : World} {a : Option Addr} (h : CellsI ws w a) (hf : Fr (fun _ => False) w w') : CellsI ws w' a := fun k hk => by
  obtain ⟨g, e, c⟩ := h k hk
  exact ⟨g, e, hf.cell c id⟩
def ProgR (ws ls : List Int) (er : Int) (w : World) (e : Ending) (w' : World) : Prop := ∃ a c b d, e = .returned (.tuple #[.slice a ws.length c, .slice b ls.length d, .int .i64 er]) ∧ Fr (fun _ => False) w w' ∧ CellsU ws w' a ∧ CellsI ls w' b
def MadeR (ws ls : List Int) (er : Int) (w : World) (e : Ending) (w' : World) : Prop := ∃ a c b d, e = .returned (.agg #[.slice a ws.length c, .slice b ls.length d, .int .i64 er]) ∧ Fr (fun _ => False) w w' ∧ CellsU ws w' a ∧ CellsI ls w' b
theorem cellsU_nil (w : World) : CellsU [] w none := fun k hk => absurd hk (by simp)
theorem cellsI_nil (w : World) : CellsI [] w none := fun k hk => absurd hk (by simp)
theorem both_asm (l : List It) (hfew : l.length ≤ 32768) : ∃ ws ls er, (ws.length ≤ 100000 ∧ ls.length ≤ 100000) ∧
    (∀ a c w, ItAt w.heap.size w a l → Calls Try.prog 7 #[.slice a l.length c] w (ProgR ws ls er w)) ∧
    (∀ a c w, ItAt w.heap.size w a l → Calls Try.prog 8 #[.slice a l.length c] w (MadeR ws ls er w)) := by
  have H : ∀ e : Int, e ≠ 0 → mayI l = e → ∀ a c w, ItAt w.heap.size w a l → Calls Try.prog 8 #[.slice a l.length c] w (MadeR [] [] e w) := fun e he hm a c w hat =>
    (r_asm_err l a l.length c rfl hfew (by rw [hm]; exact he) w hat).mono fun e' w' h => by
      obtain ⟨rfl, hf⟩ := h
      exact ⟨none, 0, none, 0, by rw [hm]; rfl, hf, cellsU_nil _, cellsI_nil _⟩
  rcases may_cases l with ⟨k, hk, hb, hm⟩ | ⟨hr, ⟨ht, hm⟩ | ⟨ht, ⟨hl, hm⟩ | ⟨hl, hm⟩⟩⟩
  · refine ⟨[], [], 1, ⟨by simp, by simp⟩, fun a c w hat => ?_, H 1 (by decide) hm⟩
    exact (asm_bad a c l hfew k hk hb w hat).mono fun e w' h => by
      obtain ⟨rfl, hf⟩ := h
      exact ⟨none, 0, none, 0, rfl, hf, cellsU_nil _, cellsI_nil _⟩
  · refine ⟨[], [], 6, ⟨by simp, by simp⟩, fun a c w hat => ?_, H 6 (by decide) hm⟩
    exact (asm_twice a c l hfew hr ht w hat).mono fun e w' h => by
      obtain ⟨rfl, hf⟩ := h
      exact ⟨none, 0, none, 0, rfl, hf, cellsU_nil _, cellsI_nil _⟩
  · refine ⟨[], [], 4, ⟨by simp, by simp⟩, fun a c w hat => ?_, H 4 (by decide) hm⟩
    exact (asm_lack a c l hfew hr ht hl w hat).mono fun e w' h => by
      obtain ⟨rfl, hf⟩ := h
      exact ⟨none, 0, none, 0, rfl, hf, cellsU_nil _, cellsI_nil _⟩
  · refine ⟨wrdD l l.length, labD l (szF l (farL l)) l.length, 0, ⟨by have := wrdD_len hfew hr hl l.length (Nat.le_refl _); omega, by have := labD_len hr (szF l (farL l)) l.length (Nat.le_refl _); omega⟩, fun a c w hat => ?_, fun a c w hat => ?_⟩
    · refine (asm_all a c l _ hfew hr (right_fit hr) ht hl (words_is hfew hr hl l.length (Nat.le_refl _)) (fun k hk L hL => ?_) w hat).mono fun e w' h => ?_
      · have := ins_some hfew hr hl hk
        rw [this.1] at hL
        cases hL
        exact this.2
      · obtain ⟨a, c, b, d, he, hf, h1, h2⟩ := h
        rw [labs_same l hr ht] at he h2
        exact ⟨a, c, b, d, he, hf, h1, h2⟩
    · refine (r_asm l a l.length c rfl hfew hr hl hm w hat).mono fun e w' h => ?_
      obtain ⟨a, c, b, d, he, hf, h1, h2⟩ := h
      exact ⟨a, c, b, d, he, hf, h1, h2⟩
end Go.Proofs.Ytnjlcimeaoedcaa
