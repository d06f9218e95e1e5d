/-
  Items (layer 5): a jump; a far branch; an offset.
-/
import Derived.Test.YtfnlhammjallfaaAsmD
import Derived.Deep.QuietTactic
import Derived.BigQuiet
namespace Go.Proofs.Ytfnlhammjallfaa
open Go.RowKit
set_option linter.unusedVariables false
set_option linter.unusedSimpArgs false
set_option maxHeartbeats 1000000 in
theorem jump_yes (rd off : Int) (h : jumpB off = true) (w : World) :
    Calls Try.prog 81 #[.int .i64 rd, .int .i64 off] w fun e w' => e = .returned (.tuple #[.agg #[.int .i64 3, .int .i64 rd, .int .i64 0, .int .i64 0, .int .i64 off], .int .i64 0]) ∧ Grown w w' := by
  unfold jumpB at h
  simp only [Bool.and_eq_true, decide_eq_true_eq] at h
  obtain ⟨h0, h1⟩ := h
  go_enter Try.func81, Try.ntmps81
  go_wp2
  exact bodyPost_ret (v := .tuple #[.agg #[.int .i64 3, .int .i64 rd, .int .i64 0, .int .i64 0, .int .i64 off], .int .i64 0]) (by simp [results, Try.results81, go_sem]) rfl ⟨rfl, (Grown.refl _).alloc _ _⟩
set_option maxHeartbeats 1000000 in
theorem jump_no (rd off : Int) (h : jumpB off = false) (w : World) :
    Calls Try.prog 81 #[.int .i64 rd, .int .i64 off] w fun e w' => e = .returned (.tuple #[.agg #[.int .i64 0, .int .i64 0, .int .i64 0, .int .i64 0, .int .i64 0], .int .i64 7]) ∧ Grown w w' := by
  have hc : off < -1048576 ∨ ¬ off < -1048576 ∧ 1048574 < off := by
    unfold jumpB at h
    simp only [Bool.and_eq_false_iff, decide_eq_false_iff_not] at h
    omega
  clear h
  rcases hc with h | ⟨h, h'⟩
  all_goals
    go_enter Try.func81, Try.ntmps81
    go_wp2
    exact bodyPost_ret (v := .tuple #[.agg #[.int .i64 0, .int .i64 0, .int .i64 0, .int .i64 0, .int .i64 0], .int .i64 7]) (by simp [results, Try.results81, go_sem]) rfl ⟨rfl, (Grown.refl _).alloc _ _⟩
/-- What a call leaves that answers these instructions, or an error. -/
def InsE (r : Option (List In)) (w : World) (e : Ending) (w' : World) : Prop :=
  Fr (fun _ => False) w w' ∧ match r with
    | some l => ∃ a c, e = .returned (.tuple #[.slice a l.length c, .int .i64 0]) ∧ InAt w' a l ∧ ∀ g o, a = some ⟨g, o, none⟩ → w.heap.size ≤ g
    | none => ∃ v, e = .returned (.tuple #[v, .int .i64 7])
theorem insE_none {w w' : World} (v : Value) (h : Fr (fun _ => False) w w') : InsE none w (.returned (.tuple #[v, .int .i64 7])) w' := ⟨h, v, rfl⟩
theorem insE_nil {w w' : World} (h : Fr (fun _ => False) w w') : InsE (some []) w (.returned (.tuple #[.slice none 0 0, .int .i64 0])) w' := ⟨h, none, 0, rfl, fun k hk => absurd hk (by simp), fun g o e => by cases e⟩
theorem insE_1 {w w2 : World} {r : Option (List In)} {i : In} {t : TypeId} {c b : Nat} (hb : b = w2.heap.size) (h : r = some [i]) (hg : Fr (fun _ => False) w w2) : InsE r w (.returned (.tuple #[.slice (some ⟨b, 0, none⟩) 1 c, .int .i64 0])) (w2.alloc (.cells #[.int .i64 i.op, .int .i64 i.rd, .int .i64 i.r1, .int .i64 i.r2, .int .i64 i.imm] t)) := by
  subst hb; subst h; exact ⟨fr_al hg _, _, _, rfl, inAt_new1 _ _ _, fun g o e => by cases e; exact hg.size⟩
theorem insE_2 {w w2 : World} {r : Option (List In)} {i i' : In} {t : TypeId} {c b : Nat} (hb : b = w2.heap.size) (h : r = some [i, i']) (hg : Fr (fun _ => False) w w2) : InsE r w (.returned (.tuple #[.slice (some ⟨b, 0, none⟩) 2 c, .int .i64 0])) (w2.alloc (.cells #[.int .i64 i.op, .int .i64 i.rd, .int .i64 i.r1, .int .i64 i.r2, .int .i64 i.imm, .int .i64 i'.op, .int .i64 i'.rd, .int .i64 i'.r1, .int .i64 i'.r2, .int .i64 i'.imm] t)) := by
  subst hb; subst h; exact ⟨fr_al hg _, _, _, rfl, inAt_new2 _ _ _ _, fun g o e => by cases e; exact hg.size⟩
/-- The instructions of a far branch. -/
def farI (op r1 r2 off : Int) : Option (List In) := if jumpB (off - 4) = true then some [⟨contr op, 0, r1, r2, 8⟩, ⟨3, 0, 0, 0, off - 4⟩] else none
theorem alloc_lt (w : World) (o : Obj) : w.heap.size < (w.alloc o).heap.size := by simp
theorem keepA {W w1 : World} {b : Nat} {v0 v1 v2 : Value} (h : Grown W w1 ∧ w1.cell? ⟨b, 0, none⟩ = some v0 ∧ w1.cell? ⟨b, 2, none⟩ = some v1 ∧ w1.cell? ⟨b, 3, none⟩ = some v2) (c : Array Value) (t : TypeId) :
    Grown W (w1.alloc (.cells c t)) ∧ (w1.alloc (.cells c t)).cell? ⟨b, 0, none⟩ = some v0 ∧ (w1.alloc (.cells c t)).cell? ⟨b, 2, none⟩ = some v1 ∧ (w1.alloc (.cells c t)).cell? ⟨b, 3, none⟩ = some v2 :=
  have g := (Grown.refl w1).alloc c t
  ⟨h.1.alloc _ _, grown_cell g h.2.1, grown_cell g h.2.2.1, grown_cell g h.2.2.2⟩
theorem keepAd {W w1 : World} {b : Nat} {v0 v1 v2 : Value} (h : Grown W w1 ∧ w1.cell? ⟨b, 0, none⟩ = some v0 ∧ w1.cell? ⟨b, 2, none⟩ = some v1 ∧ w1.cell? ⟨b, 3, none⟩ = some v2) :
    Grown W w1.drew ∧ w1.drew.cell? ⟨b, 0, none⟩ = some v0 ∧ w1.drew.cell? ⟨b, 2, none⟩ = some v1 ∧ w1.drew.cell? ⟨b, 3, none⟩ = some v2 := h
theorem grown_of4 {W w1 : World} {p : Prop} (h : Grown W w1 ∧ p) : Grown W w1 := h.1
set_option maxRecDepth 100000 in
set_option maxHeartbeats 8000000 in
theorem far_no (op rd r1 r2 imm off : Int) (h0 : -1000000 ≤ off) (h1 : off ≤ 1000000) (hJ : jumpB (off - 4) = false) (w : World) :
    Calls Try.prog 80 #[.agg #[.int .i64 op, .int .i64 rd, .int .i64 r1, .int .i64 r2, .int .i64 imm], .int .i64 off] w (InsE (farI op r1 r2 off) w) := by
  have HG := Lib.hid ((Grown.refl w).alloc #[.int .i64 op, .int .i64 rd, .int .i64 r1, .int .i64 r2, .int .i64 imm] 23)
  have y0 := row_cell w #[.int .i64 op, .int .i64 rd, .int .i64 r1, .int .i64 r2, .int .i64 imm] 23 0 (.int .i64 op) rfl
  have y2 := row_cell w #[.int .i64 op, .int .i64 rd, .int .i64 r1, .int .i64 r2, .int .i64 imm] 23 2 (.int .i64 r1) rfl
  have y3 := row_cell w #[.int .i64 op, .int .i64 rd, .int .i64 r1, .int .i64 r2, .int .i64 imm] 23 3 (.int .i64 r2) rfl
  have KJ := Lib.hid (jump_no 0 (off - 4) hJ)
  have KC := Lib.hid (c13 op)
  have HF : Hid (farI op r1 r2 off = if jumpB (off - 4) = true then some [⟨contr op, 0, r1, r2, 8⟩, ⟨3, 0, 0, 0, off - 4⟩] else none) := Lib.hid rfl
  rw [hJ] at HF
  clear hJ
  generalize farI op r1 r2 off = FI at *
  generalize contr op = C at *
  go_enter Try.func80, Try.ntmps80
  go_wp2_with fail
  generalize w.alloc (.cells #[.int .i64 op, .int .i64 rd, .int .i64 r1, .int .i64 r2, .int .i64 imm] 23) = W at *
  generalize w.heap.size = b at *
  have G0 := HG.out
  go_region_held3 (fun w' => Grown w w' ∧ w'.cell? ⟨b, 0, none⟩ = some (.int .i64 op) ∧ w'.cell? ⟨b, 2, none⟩ = some (.int .i64 r1) ∧ w'.cell? ⟨b, 3, none⟩ = some (.int .i64 r2))
      (first | exact ⟨G0, y0, y2, y3⟩ | assumption | exact keepAd (keepA ⟨G0, y0, y2, y3⟩ _ _) | exact keepA (by assumption) _ _ | exact keepAd (by assumption))
      (first
        | (go_at_call 13; (with_reducible refine (KC.out _).mono ?_); rintro e w3 ⟨rfl, rfl⟩))
  all_goals have GW := Lib.hid (G0.alloc #[.int .i64 C, .int .i64 0, .int .i64 r1, .int .i64 r2, .int .i64 8] 23)
  all_goals clear HG G0 y0 y2 y3
  all_goals go_wp2_with (go_at_call 81; (with_reducible refine (KJ.out _).mono ?_); rintro e w2 ⟨rfl, hg⟩; have hg' : Grown (W.alloc (.cells #[.int .i64 C, .int .i64 0, .int .i64 r1, .int .i64 r2, .int .i64 8] 23)) w2 := hg; have a0 := grown_cell hg' (row_cell W #[.int .i64 C, .int .i64 0, .int .i64 r1, .int .i64 r2, .int .i64 8] 23 0 _ rfl); have a1 := grown_cell hg' (row_cell W #[.int .i64 C, .int .i64 0, .int .i64 r1, .int .i64 r2, .int .i64 8] 23 1 _ rfl); have a2 := grown_cell hg' (row_cell W #[.int .i64 C, .int .i64 0, .int .i64 r1, .int .i64 r2, .int .i64 8] 23 2 _ rfl); have a3 := grown_cell hg' (row_cell W #[.int .i64 C, .int .i64 0, .int .i64 r1, .int .i64 r2, .int .i64 8] 23 3 _ rfl); have a4 := grown_cell hg' (row_cell W #[.int .i64 C, .int .i64 0, .int .i64 r1, .int .i64 r2, .int .i64 8] 23 4 _ rfl); have q2 : W.heap.size < w2.heap.size := Nat.lt_of_lt_of_le (alloc_lt _ _) hg'.2.2; have q3 := Nat.ne_of_lt q2; have H2 := Lib.hid (grown_trans GW.out hg'); clear hg hg')
  all_goals go_ret2
  all_goals rw [HF.out]
  all_goals exact insE_none _ (Fr.of_grown ((H2.out.alloc _ _).alloc _ _))
set_option maxRecDepth 100000 in
set_option maxHeartbeats 8000000 in
theorem far_yes (op rd r1 r2 imm off : Int) (h0 : -1000000 ≤ off) (h1 : off ≤ 1000000) (hJ : jumpB (off - 4) = true) (w : World) :
    Calls Try.prog 80 #[.agg #[.int .i64 op, .int .i64 rd, .int .i64 r1, .int .i64 r2, .int .i64 imm], .int .i64 off] w (InsE (farI op r1 r2 off) w) := by
  have HG := Lib.hid ((Grown.refl w).alloc #[.int .i64 op, .int .i64 rd, .int .i64 r1, .int .i64 r2, .int .i64 imm] 23)
  have y0 := row_cell w #[.int .i64 op, .int .i64 rd, .int .i64 r1, .int .i64 r2, .int .i64 imm] 23 0 (.int .i64 op) rfl
  have y2 := row_cell w #[.int .i64 op, .int .i64 rd, .int .i64 r1, .int .i64 r2, .int .i64 imm] 23 2 (.int .i64 r1) rfl
  have y3 := row_cell w #[.int .i64 op, .int .i64 rd, .int .i64 r1, .int .i64 r2, .int .i64 imm] 23 3 (.int .i64 r2) rfl
  have KJ := Lib.hid (jump_yes 0 (off - 4) hJ)
  have KC := Lib.hid (c13 op)
  have HF : Hid (farI op r1 r2 off = if jumpB (off - 4) = true then some [⟨contr op, 0, r1, r2, 8⟩, ⟨3, 0, 0, 0, off - 4⟩] else none) := Lib.hid rfl
  rw [hJ] at HF
  clear hJ
  generalize farI op r1 r2 off = FI at *
  generalize contr op = C at *
  go_enter Try.func80, Try.ntmps80
  go_wp2_with fail
  generalize w.alloc (.cells #[.int .i64 op, .int .i64 rd, .int .i64 r1, .int .i64 r2, .int .i64 imm] 23) = W at *
  generalize w.heap.size = b at *
  have G0 := HG.out
  go_region_held3 (fun w' => Grown w w' ∧ w'.cell? ⟨b, 0, none⟩ = some (.int .i64 op) ∧ w'.cell? ⟨b, 2, none⟩ = some (.int .i64 r1) ∧ w'.cell? ⟨b, 3, none⟩ = some (.int .i64 r2))
      (first | exact ⟨G0, y0, y2, y3⟩ | assumption | exact keepAd (keepA ⟨G0, y0, y2, y3⟩ _ _) | exact keepA (by assumption) _ _ | exact keepAd (by assumption))
      (first
        | (go_at_call 13; (with_reducible refine (KC.out _).mono ?_); rintro e w3 ⟨rfl, rfl⟩))
  all_goals have GW := Lib.hid (G0.alloc #[.int .i64 C, .int .i64 0, .int .i64 r1, .int .i64 r2, .int .i64 8] 23)
  all_goals clear HG G0 y0 y2 y3
  all_goals go_wp2_with (go_at_call 81; (with_reducible refine (KJ.out _).mono ?_); rintro e w2 ⟨rfl, hg⟩; have hg' : Grown (W.alloc (.cells #[.int .i64 C, .int .i64 0, .int .i64 r1, .int .i64 r2, .int .i64 8] 23)) w2 := hg; have a0 := grown_cell hg' (row_cell W #[.int .i64 C, .int .i64 0, .int .i64 r1, .int .i64 r2, .int .i64 8] 23 0 _ rfl); have a1 := grown_cell hg' (row_cell W #[.int .i64 C, .int .i64 0, .int .i64 r1, .int .i64 r2, .int .i64 8] 23 1 _ rfl); have a2 := grown_cell hg' (row_cell W #[.int .i64 C, .int .i64 0, .int .i64 r1, .int .i64 r2, .int .i64 8] 23 2 _ rfl); have a3 := grown_cell hg' (row_cell W #[.int .i64 C, .int .i64 0, .int .i64 r1, .int .i64 r2, .int .i64 8] 23 3 _ rfl); have a4 := grown_cell hg' (row_cell W #[.int .i64 C, .int .i64 0, .int .i64 r1, .int .i64 r2, .int .i64 8] 23 4 _ rfl); have q2 : W.heap.size < w2.heap.size := Nat.lt_of_lt_of_le (alloc_lt _ _) hg'.2.2; have q3 := Nat.ne_of_lt q2; have H2 := Lib.hid (grown_trans GW.out hg'); clear hg hg')
  all_goals go_ret2
  all_goals exact insE_2 (r := FI) (i := ⟨C, 0, r1, r2, 8⟩) (i' := ⟨3, 0, 0, 0, off - 4⟩) (by simp) (by rw [HF.out]; rfl) (Fr.of_grown (H2.out.alloc _ _))
theorem c80 (op rd r1 r2 imm off : Int) (h0 : -1000000 ≤ off) (h1 : off ≤ 1000000) (w : World) :
    Calls Try.prog 80 #[.agg #[.int .i64 op, .int .i64 rd, .int .i64 r1, .int .i64 r2, .int .i64 imm], .int .i64 off] w (InsE (farI op r1 r2 off) w) := by
  cases h : jumpB (off - 4)
  · exact far_no op rd r1 r2 imm off h0 h1 h w
  · exact far_yes op rd r1 r2 imm off h0 h1 h w
theorem pick4 {s0 s1 s2 s3 : Value} (w : World) (t : TypeId) (j : Nat) (v : Value) (h : (#[s0, s1, s2, s3] : Array Value)[j]? = some v) : (w.alloc (.cells #[s0, s1, s2, s3] t)).cell? ⟨w.heap.size, j, none⟩ = some v := fcell w _ t j v h
set_option maxRecDepth 100000 in
set_option maxHeartbeats 4000000 in
/-- An offset: the row of places, at the goal's number less at its own. -/
theorem c79 (si ss : Value) (gg ga n k t : Nat) (X Y : Int) (hk : k < n) (ht : t < n) (hn : n ≤ 100000) (x0 : 0 ≤ X) (x1 : X ≤ 1000000) (y0 : 0 ≤ Y) (y1 : Y ≤ 1000000) (w : World)
    (c1 : w.cell? ⟨gg, k, none⟩ = some (.int .i64 t)) (c2 : w.cell? ⟨ga, t, none⟩ = some (.int .i64 X)) (c3 : w.cell? ⟨ga, k, none⟩ = some (.int .i64 Y)) :
    Calls Try.prog 79 #[.agg #[si, .slice (some ⟨gg, 0, none⟩) n n, ss, .slice (some ⟨ga, 0, none⟩) n n], .int .i64 k] w fun e w' => e = .returned (.int .i64 (X - Y)) ∧ Fr (fun _ => False) w w' := by
  have F0 := Lib.hid (fr_al (Fr.refl (fun _ => False) w) (.cells #[si, .slice (some ⟨gg, 0, none⟩) n n, ss, .slice (some ⟨ga, 0, none⟩) n n] 71))
  have d1 := F0.out.cell c1 id
  have d2 := F0.out.cell c2 id
  have d3 := F0.out.cell c3 id
  have e1 := fcell w #[si, .slice (some ⟨gg, 0, none⟩) n n, ss, .slice (some ⟨ga, 0, none⟩) n n] 71 1 _ rfl
  have e3 := fcell w #[si, .slice (some ⟨gg, 0, none⟩) n n, ss, .slice (some ⟨ga, 0, none⟩) n n] 71 3 _ rfl
  clear c1 c2 c3
  have i1 : (0 : Int) ≤ (k : Int) := by omega
  have i2 : (k : Int) < (n : Int) := by omega
  have i3 : (0 : Int) ≤ (t : Int) := by omega
  have i4 : (t : Int) < (n : Int) := by omega
  go_enter Try.func79, Try.ntmps79
  go_wp2_with fail
  generalize w.alloc (.cells #[si, .slice (some ⟨gg, 0, none⟩) n n, ss, .slice (some ⟨ga, 0, none⟩) n n] 71) = W at *
  generalize w.heap.size = b at *
  go_quiet (fail)
  go_wp2
  go_ret
  exact ⟨rfl, F0.out.drewN _⟩
end Go.Proofs.Ytfnlhammjallfaa
