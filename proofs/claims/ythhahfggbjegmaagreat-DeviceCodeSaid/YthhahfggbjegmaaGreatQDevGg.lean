/-
  The contract of decode (layer 3): the instruction of each word. The contract of compute (layer 3): a switch of 27 cases with fallthrough; the way out of its blocks is walked by small lemmas of its own.
-/
import Derived.Test.YthhahfggbjegmaaGreatQPiece
import Derived.Test.YthhahfggbjegmaaGreatQDevN
import Derived.OwnWalk
namespace Go.Proofs.YthhahfggbjegmaaGreat
open Go.RowKit
set_option linter.unusedVariables false
set_option linter.unusedSimpArgs false
/-- The instruction of a word; zeros if there is none. -/
def decM (u : Int) : List Int :=
  if findI u = 0 then [0, 0, 0, 0, 0]
  else [(findI u : Int), regV u 7 (uRd (fm (findI u))), regV u 15 (uRs1 (fm (findI u))), regV u 20 (uRs2 (fm (findI u))), gathS (fm (findI u)) u]
theorem decM_len (u : Int) : (decM u).length = 5 := by unfold decM; split <;> rfl
theorem regV_in {u : Int} (a : Int) (b : Bool) (h0 : 0 ≤ u) : 0 ≤ regV u a b ∧ regV u a b < 32 := by
  unfold regV; split
  · have : 0 ≤ u / 2 ^ a.toNat := Int.ediv_nonneg h0 (Int.le_of_lt (Int.pow_pos (by decide)))
    omega
  · omega
theorem decM_ok {u : Int} (h0 : 0 ≤ u) : (decM u).length = 5 ∧ 0 ≤ (decM u).getD 0 0 ∧ (decM u).getD 0 0 ≤ 45 ∧ (0 ≤ (decM u).getD 1 0 ∧ (decM u).getD 1 0 < 32) ∧ (0 ≤ (decM u).getD 2 0 ∧ (decM u).getD 2 0 < 32) ∧ (0 ≤ (decM u).getD 3 0 ∧ (decM u).getD 3 0 < 32) := by
  refine ⟨decM_len u, ?_⟩
  unfold decM
  split
  · simp
  · have := find_lt u
    exact ⟨by show 0 ≤ (findI u : Int); omega, by show (findI u : Int) ≤ 45; omega, regV_in _ _ h0, regV_in _ _ h0, regV_in _ _ h0⟩
theorem dv16 (u : Int) (h0 : 0 ≤ u) (h1 : u ≤ 4294967295) (w : World) :
    Calls Tryz.prog 33 #[.int .u32 u] w fun e w' => (∃ er, e = .returned (.tuple #[.agg #[.int .i64 ((decM u).getD 0 0), .int .i64 ((decM u).getD 1 0), .int .i64 ((decM u).getD 2 0), .int .i64 ((decM u).getD 3 0), .int .i64 ((decM u).getD 4 0)], .int .i64 er])) ∧ Grown w w' := by
  by_cases hk : findI u = 0
  · have e : decM u = [0, 0, 0, 0, 0] := by unfold decM; rw [if_pos hk]
    rw [e]
    exact (c33_none u h0 h1 hk w).mono fun _ _ ⟨a, b⟩ => ⟨⟨3, a⟩, b⟩
  · have e : decM u = [(findI u : Int), regV u 7 (uRd (fm (findI u))), regV u 15 (uRs1 (fm (findI u))), regV u 20 (uRs2 (fm (findI u))), gathS (fm (findI u)) u] := by unfold decM; rw [if_neg hk]
    rw [e]
    exact (c33_some u h0 h1 (findI u) rfl hk w).mono fun _ _ ⟨a, b⟩ => ⟨⟨0, a⟩, b⟩
/-- A slice of words: where each lies. -/
def WordsAt (w : World) (a : Option Addr) (ws : List Int) : Prop :=
  ∀ k, k < ws.length → ∃ b o, a = some ⟨b, o, none⟩ ∧ w.cell? ⟨b, o + k, none⟩ = some (.int .u32 (ws.getD k 0))
def DecAt (w : World) (g k : Nat) (ws : List Int) : Prop := ∀ i, i < k → ∀ j, j < 5 → w.cell? ⟨g, i * 5 + j, none⟩ = some (.int .i64 ((decM (ws.getD i 0)).getD j 0))
def DecRel (w : World) (g : Nat) (ws : List Int) (k : Nat) (wr : World) : Prop :=
  DecAt wr g k ws ∧ (∀ o, o < ws.length * 5 → (∃ x, wr.cell? ⟨g, o, none⟩ = some x) ∧ wr.frozen? ⟨g, o, none⟩ = false) ∧ Fr (fun _ => False) w wr ∧ w.heap.size ≤ g ∧ g < wr.heap.size
theorem info23 : (Tryz.prog.info? 70).map (fun i => (i.zero, i.size, i.bytes)) = some (some (.agg #[.int .i64 0, .int .i64 0, .int .i64 0, .int .i64 0, .int .i64 0]), 5, 40) := by kernel_rfl
theorem DecRel.start {w w1 : World} {ws : List Int} (h : w1.ownsRow w.heap.size 70 5 (.slice (some ⟨w.heap.size, 0, none⟩) ws.length ws.length) ws.length (madeCells (Value.agg #[.int .i64 0, .int .i64 0, .int .i64 0, .int .i64 0, .int .i64 0]).cells (ws.length * 5)).toList) (hg : w.grownBy w1 none) (h0 : 0 < ws.length) :
    DecRel w w.heap.size ws 0 w1 := by
  refine ⟨fun i hi => absurd hi (by omega), fun o ho => ⟨?_, h.frozenAt o⟩, Fr.of_by0 hg, Nat.le_refl _, ?_⟩
  · have hl := h.1
    have := h.cellAt o (by omega)
    rw [this]
    exact ⟨_, List.getElem?_eq_getElem (by omega)⟩
  · exact ((h.lt) w.heap.size rfl).2
theorem DecRel.next {w wr w2 : World} {g : Nat} {ws : List Int} {k : Nat} (h : DecRel w g ws k wr) (hk : k < ws.length) (hg : Grown wr w2) {u : Int} (hu : ws.getD k 0 = u) :
    DecRel w g ws (k + 1) (((((w2.setCell ⟨g, k * 5, none⟩ (.int .i64 ((decM u).getD 0 0))).setCell ⟨g, k * 5 + 1, none⟩ (.int .i64 ((decM u).getD 1 0))).setCell ⟨g, k * 5 + 2, none⟩ (.int .i64 ((decM u).getD 2 0))).setCell ⟨g, k * 5 + 3, none⟩ (.int .i64 ((decM u).getD 3 0))).setCell ⟨g, k * 5 + 4, none⟩ (.int .i64 ((decM u).getD 4 0))) := by
  subst hu
  obtain ⟨h1, h2, h3, h4, h5⟩ := h
  have hf := Fr.of_grown (F := fun _ => False) hg
  have hall : ∀ o, o < ws.length * 5 → ∃ x, w2.cell? ⟨g, o, none⟩ = some x := fun o ho => by
    obtain ⟨⟨x, hx⟩, _⟩ := h2 o ho
    exact ⟨x, hf.cell hx id⟩
  have step : ∀ (W : World) (p : Nat) (v : Value), p < ws.length * 5 → (∀ o, o < ws.length * 5 → ∃ x, W.cell? ⟨g, o, none⟩ = some x) →
      (∀ o, o < ws.length * 5 → ∃ x, (W.setCell ⟨g, p, none⟩ v).cell? ⟨g, o, none⟩ = some x) ∧ (W.setCell ⟨g, p, none⟩ v).cell? ⟨g, p, none⟩ = some v ∧ (∀ o, o ≠ p → (W.setCell ⟨g, p, none⟩ v).cell? ⟨g, o, none⟩ = W.cell? ⟨g, o, none⟩) := fun W p v hp hW => by
    obtain ⟨x, hx⟩ := hW p hp
    have e1 : (W.setCell ⟨g, p, none⟩ v).cell? ⟨g, p, none⟩ = some v := World.cell?_setCell_same _ _ _ hx
    have e2 : ∀ o, o ≠ p → (W.setCell ⟨g, p, none⟩ v).cell? ⟨g, o, none⟩ = W.cell? ⟨g, o, none⟩ := fun o ho => World.cell?_setCell_other _ _ _ _ (fun e => ho (by injection e with _ q; exact q.symm))
    refine ⟨fun o ho => ?_, e1, e2⟩
    by_cases e : o = p
    · subst e; exact ⟨_, e1⟩
    · rw [e2 o e]; exact hW o ho
  have hk5 : k * 5 + 4 < ws.length * 5 := by omega
  obtain ⟨A0, s0, o0⟩ := step w2 (k * 5) (.int .i64 ((decM (ws.getD k 0)).getD 0 0)) (by omega) hall
  generalize hW0 : w2.setCell ⟨g, k * 5, none⟩ (.int .i64 ((decM (ws.getD k 0)).getD 0 0)) = W0 at *
  obtain ⟨A1, s1, o1⟩ := step W0 (k * 5 + 1) (.int .i64 ((decM (ws.getD k 0)).getD 1 0)) (by omega) A0
  generalize hW1 : W0.setCell ⟨g, k * 5 + 1, none⟩ (.int .i64 ((decM (ws.getD k 0)).getD 1 0)) = W1 at *
  obtain ⟨A2, s2, o2⟩ := step W1 (k * 5 + 2) (.int .i64 ((decM (ws.getD k 0)).getD 2 0)) (by omega) A1
  generalize hW2 : W1.setCell ⟨g, k * 5 + 2, none⟩ (.int .i64 ((decM (ws.getD k 0)).getD 2 0)) = W2 at *
  obtain ⟨A3, s3, o3⟩ := step W2 (k * 5 + 3) (.int .i64 ((decM (ws.getD k 0)).getD 3 0)) (by omega) A2
  generalize hW3 : W2.setCell ⟨g, k * 5 + 3, none⟩ (.int .i64 ((decM (ws.getD k 0)).getD 3 0)) = W3 at *
  obtain ⟨A4, s4, o4⟩ := step W3 (k * 5 + 4) (.int .i64 ((decM (ws.getD k 0)).getD 4 0)) (by omega) A3
  have hF : Fr (fun j => j = g) w2 (W3.setCell ⟨g, k * 5 + 4, none⟩ (.int .i64 ((decM (ws.getD k 0)).getD 4 0))) := by
    rw [← hW3, ← hW2, ← hW1, ← hW0]
    exact ((((Fr.setCell (F := fun j => j = g) w2 _ _ rfl).trans (Fr.setCell (F := fun j => j = g) _ _ _ rfl)).trans (Fr.setCell (F := fun j => j = g) _ _ _ rfl)).trans (Fr.setCell (F := fun j => j = g) _ _ _ rfl)).trans (Fr.setCell (F := fun j => j = g) _ _ _ rfl)
  have hz : ∀ a, (W3.setCell ⟨g, k * 5 + 4, none⟩ (.int .i64 ((decM (ws.getD k 0)).getD 4 0))).frozen? a = w2.frozen? a := fun a => by
    rw [World.frozen?_setCell, ← hW3, World.frozen?_setCell, ← hW2, World.frozen?_setCell, ← hW1, World.frozen?_setCell, ← hW0, World.frozen?_setCell]
  have hkeep : ∀ o, (o < k * 5) → (W3.setCell ⟨g, k * 5 + 4, none⟩ (.int .i64 ((decM (ws.getD k 0)).getD 4 0))).cell? ⟨g, o, none⟩ = w2.cell? ⟨g, o, none⟩ := fun o ho => by
    rw [o4 o (by omega), o3 o (by omega), o2 o (by omega), o1 o (by omega), o0 o (by omega)]
  refine ⟨fun i hi j hj => ?_, fun o ho => ⟨A4 o ho, ?_⟩, ?_, h4, ?_⟩
  · by_cases hik : i < k
    · rw [hkeep _ (by omega)]
      exact hf.cell (h1 i hik j hj) id
    · obtain rfl : i = k := by omega
      have : j = 0 ∨ j = 1 ∨ j = 2 ∨ j = 3 ∨ j = 4 := by omega
      rcases this with rfl | rfl | rfl | rfl | rfl
      · simp only [Nat.add_zero]
        rw [o4 _ (by omega), o3 _ (by omega), o2 _ (by omega), o1 _ (by omega), s0]
      · rw [o4 _ (by omega), o3 _ (by omega), o2 _ (by omega), s1]
      · rw [o4 _ (by omega), o3 _ (by omega), s2]
      · rw [o4 _ (by omega), s3]
      · exact s4
  · obtain ⟨⟨x, hx⟩, hfz⟩ := h2 o ho
    rw [hz, hf.frozen hx id]
    exact hfz
  · exact h3.trans' (hf.mono (G := fun j => j = g) (fun _ _ f => f.elim) |>.trans hF) (fun j hj e => by omega)
  · have := hF.size
    have := hf.size
    omega
set_option maxRecDepth 100000 in
set_option maxHeartbeats 2000000 in
theorem dv56 (a : Option Addr) (ws : List Int) (c : Nat) (hn : 0 < ws.length) (hn2 : ws.length ≤ 32768) (hb : ∀ k, k < ws.length → 0 ≤ ws.getD k 0 ∧ ws.getD k 0 ≤ 4294967295) (w : World) (hin : WordsAt w a ws) :
    Calls Tryz.prog 23 #[.slice a ws.length c] w fun e w' => ∃ g, e = .returned (.slice (some ⟨g, 0, none⟩) ws.length ws.length) ∧ w.heap.size ≤ g ∧ g < w'.heap.size ∧ Fr (fun _ => False) w w' ∧ DecAt w' g ws.length ws := by
  obtain ⟨i0, hi, hz0, hz1, hz2⟩ := info_parts info23
  obtain ⟨n, hnn⟩ : ∃ n, ws.length = n := ⟨_, rfl⟩
  have HN := Lib.hid hnn
  have HIN := Lib.hid hin
  have HB := Lib.hid hb
  obtain ⟨g, hg0⟩ : ∃ g, w.heap.size = g := ⟨_, rfl⟩
  have HS := Lib.hid (fun w1 h hg => @DecRel.start w w1 ws h hg hn)
  have HX := Lib.hid (fun (wr w2 : World) (k : Nat) (u : Int) => @DecRel.next w wr w2 g ws k (u := u))
  have HG0 := Lib.hid hg0
  rw [hnn] at hn hn2
  rw [hnn]
  have b2 : i0.bytes * n ≤ 281474976710656 := by rw [hz2]; omega
  have b3 : n ≤ maxLen := by unfold maxLen; omega
  clear hin hb hnn hg0
  go_enter Tryz.func23, Tryz.ntmps23
  go_wp2_with (refine wpList_make_full _ rfl _ _ 51 rfl w.heap.size 70 i0 _ 5 Tryz.underlying51 hi hz0 hz1 .i64 .i64 (n : Int) (n : Int) n (by rfl) (by rfl) rfl rfl b2 b3 (Nat.le_refl _) ?_; intro w1 hown hg)
  have HD : Hid (DecRel w g ws 0 w1) := Lib.hid (by rw [← HG0.out]; exact HS.out w1 (by rw [HN.out]; exact hown) hg)
  rw [HG0.out]
  clear hown hg b2 b3 HS
  go_loopw [11] (fun q wr => ∃ k : Nat, k ≤ n ∧ q = .int .i64 k ∧ Hid (DecRel w g ws k wr)) (fun q _ => n - (intOf q).toNat)
  case atStart => exact ⟨0, by omega, rfl, HD⟩
  case round =>
    obtain ⟨k, hk, rfl, HW⟩ := hrel
    clear HD
    by_cases hlt : k < n
    · obtain ⟨b, o, rfl, hc0⟩ := HIN.out k (by rw [HN.out]; exact hlt)
      have hc := HW.out.2.2.1.cell hc0 id
      obtain ⟨u0, u1⟩ := HB.out k (by rw [HN.out]; exact hlt)
      obtain ⟨u, hu⟩ : ∃ u, ws.getD k 0 = u := ⟨_, rfl⟩
      rw [hu] at hc u0 u1
      have HU := Lib.hid hu
      have hw5 : ∀ j, j < 5 → k * 5 + j < ws.length * 5 := fun j hj => by rw [HN.out]; omega
      obtain ⟨⟨x0, q0⟩, z0⟩ := HW.out.2.1 (k * 5) (hw5 0 (by decide))
      obtain ⟨⟨x1, q1⟩, z1⟩ := HW.out.2.1 (k * 5 + 1) (hw5 1 (by decide))
      obtain ⟨⟨x2, q2⟩, z2⟩ := HW.out.2.1 (k * 5 + 2) (hw5 2 (by decide))
      obtain ⟨⟨x3, q3⟩, z3⟩ := HW.out.2.1 (k * 5 + 3) (hw5 3 (by decide))
      obtain ⟨⟨x4, q4⟩, z4⟩ := HW.out.2.1 (k * 5 + 4) (hw5 4 (by decide))
      have hlt' : (k : Int) < n := by omega
      have hge : (0 : Int) ≤ k := by omega
      clear hc0 hu hw5
      go_wp2_with (go_at_call 33; (with_reducible refine (dv16 u u0 u1 _).mono ?_); rintro e w2 ⟨⟨er, rfl⟩, hgr⟩; have hf2 := Fr.of_grown (F := fun _ => False) hgr; have HGR := Lib.hid hgr; have p0 := hf2.cell q0 id; have f0 := (hf2.frozen q0 id).trans z0; have p1 := hf2.cell q1 id; have f1 := (hf2.frozen q1 id).trans z1; have p2 := hf2.cell q2 id; have f2 := (hf2.frozen q2 id).trans z2; have p3 := hf2.cell q3 id; have f3 := (hf2.frozen q3 id).trans z3; have p4 := hf2.cell q4 id; have f4 := (hf2.frozen q4 id).trans z4; clear hf2 hgr q0 q1 q2 q3 q4 z0 z1 z2 z3 z4)
      go_roundw
      case rel => exact ⟨k + 1, by omega, by go_num, Lib.hid (HX.out wr w2 k u HW.out (by rw [HN.out]; exact hlt) HGR.out HU.out)⟩
      case measure => simp [intOf]; omega
    · obtain rfl : k = n := by omega
      go_wp2
      go_ret
      exact ⟨g, rfl, by rw [HG0.out]; exact Nat.le_refl _, HW.out.2.2.2.2, HW.out.2.2.1, HW.out.1⟩
theorem past_block {id k : Nat} {Q : Exit → Act → World → Prop} {a : Act} {w : World} (h : (k == id) = false) (hq : Q (.exit k) a w) : Exit.inBlock id Q (.exit k) a w := by
  have : ¬ k = id := by simpa using h
  simp only [Exit.inBlock, if_neg this]; exact hq
theorem past_then {k : Nat} {Q : Exit → Act → World → Prop} {K : Act → World → Prop} {a : Act} {w : World} (hq : Q (.exit k) a w) : Exit.then K Q (.exit k) a w := hq
theorem at_block {id : Nat} {Q : Exit → Act → World → Prop} {a : Act} {w : World} (hq : Q .normal a w) : Exit.inBlock id Q (.exit id) a w := by
  simp only [Exit.inBlock, if_true]; exact hq
/-- What an instruction without a place makes of two words, by the number of its long form. -/
def longF (op a b : Int) : Int :=
  if op = 28 then (a + b) % 4294967296 else if op = 29 then (a - b) % 4294967296 else if op = 30 then leftF a b else if op = 31 then lessF a b else if op = 32 then lessUF a b else if op = 33 then bits .xor .u32 a b
  else if op = 34 then rightF a b else if op = 35 then rightSF a b else if op = 36 then bits .or .u32 a b else if op = 37 then bits .and .u32 a b else multF op a b
/-- The long form of a short one. -/
def longOf (op : Int) : Int := if op = 19 then 28 else if op = 20 then 31 else if op = 21 then 32 else if op = 22 then 33 else if op = 23 then 36 else if op = 24 then 37 else if op = 25 then 30 else if op = 26 then 34 else if op = 27 then 35 else op
def compF (op a b imm : Int) : Int := longF (longOf op) a (if op ≤ 27 then imm else b)
set_option maxRecDepth 100000 in
set_option maxHeartbeats 4000000 in
theorem dv87_m (op a b imm : Int) (ho : 38 ≤ op ∧ op ≤ 45) (a0 : 0 ≤ a) (a1 : a ≤ 4294967295) (b0 : 0 ≤ b) (b1 : b ≤ 4294967295) (i0 : 0 ≤ imm) (i1 : imm ≤ 4294967295) (w : World) :
    Calls Tryz.prog 59 #[.int .i64 op, .int .u32 a, .int .u32 b, .int .u32 imm] w fun e w' => e = .returned (.int .u32 (compF op a b imm)) ∧ w.grownBy w' none := by
  have HB := Lib.hid (byRefl w)
  have hc : op = 38 ∨ op = 39 ∨ op = 40 ∨ op = 41 ∨ op = 42 ∨ op = 43 ∨ op = 44 ∨ op = 45 := by omega
  rcases hc with rfl | rfl | rfl | rfl | rfl | rfl | rfl | rfl
  all_goals
    clear ho
    go_enter Tryz.func59, Tryz.ntmps59
    iterate 440 (first | (first | with_reducible refine wp_exit ?_ | with_reducible refine past_then ?_ | with_reducible refine past_block rfl ?_ | with_reducible refine at_block ?_) | ((fail_if_success go_at_call 97); (fail_if_success go_at_call 54); (fail_if_success go_at_call 93); (fail_if_success go_at_call 87); (fail_if_success go_at_call 88); (fail_if_success go_at_call 94); (fail_if_success go_at_call 95); (fail_if_success go_at_call 96); first | go_values | go_skip | go_guarded | go_step) | skip)
    go_wp2_with (first | (first | with_reducible refine wp_exit ?_ | with_reducible refine past_then ?_ | with_reducible refine past_block rfl ?_ | with_reducible refine at_block ?_) | (go_at_call 97; (with_reducible refine (dv98 _ a b (by decide) a0 a1 b0 b1 _).mono ?_); rintro e w' ⟨rfl, hg⟩; have HG := Lib.hid hg; clear hg))
    go_tidy
    go_ret
    exact ⟨rfl, HG.out⟩
set_option maxRecDepth 100000 in
set_option maxHeartbeats 4000000 in
theorem dv87_i (op a b imm : Int) (ho : 19 ≤ op ∧ op ≤ 27) (a0 : 0 ≤ a) (a1 : a ≤ 4294967295) (b0 : 0 ≤ b) (b1 : b ≤ 4294967295) (i0 : 0 ≤ imm) (i1 : imm ≤ 4294967295) (w : World) :
    Calls Tryz.prog 59 #[.int .i64 op, .int .u32 a, .int .u32 b, .int .u32 imm] w fun e w' => e = .returned (.int .u32 (compF op a b imm)) ∧ w.grownBy w' none := by
  have HB := Lib.hid (byRefl w)
  have hc : op = 19 ∨ op = 20 ∨ op = 21 ∨ op = 22 ∨ op = 23 ∨ op = 24 ∨ op = 25 ∨ op = 26 ∨ op = 27 := by omega
  rcases hc with rfl | rfl | rfl | rfl | rfl | rfl | rfl | rfl | rfl
  all_goals
    clear ho
    go_enter Tryz.func59, Tryz.ntmps59
    iterate 440 (first | (first | with_reducible refine wp_exit ?_ | with_reducible refine past_then ?_ | with_reducible refine past_block rfl ?_ | with_reducible refine at_block ?_) | ((fail_if_success go_at_call 97); (fail_if_success go_at_call 54); (fail_if_success go_at_call 93); (fail_if_success go_at_call 87); (fail_if_success go_at_call 88); (fail_if_success go_at_call 94); (fail_if_success go_at_call 95); (fail_if_success go_at_call 96); first | go_values | go_skip | go_guarded | go_step) | skip)
    go_wp2_with (first | (first | with_reducible refine wp_exit ?_ | with_reducible refine past_then ?_ | with_reducible refine past_block rfl ?_ | with_reducible refine at_block ?_) | (go_at_call 54; (with_reducible refine (c54 _ _ a0 a1 (by assumption) (by assumption) _).mono ?_); rintro e w' ⟨rfl, rfl⟩) | (go_at_call 93; (with_reducible refine (c93 _ _ a0 a1 (by assumption) (by assumption) _).mono ?_); rintro e w' ⟨rfl, rfl⟩) | (go_at_call 87; (with_reducible refine (c87 _ _ a0 a1 (by assumption) (by assumption) _).mono ?_); rintro e w' ⟨rfl, rfl⟩) | (go_at_call 88; (with_reducible refine (c88 _ _ a0 a1 (by assumption) (by assumption) _).mono ?_); rintro e w' ⟨rfl, rfl⟩) | (go_at_call 94; (with_reducible refine (c94 _ _ a0 a1 (by assumption) (by assumption) _).mono ?_); rintro e w' ⟨rfl, rfl⟩) | (go_at_call 95; (with_reducible refine (c95 _ _ a0 a1 (by assumption) (by assumption) _).mono ?_); rintro e w' ⟨rfl, rfl⟩) | (go_at_call 96; (with_reducible refine (c96 _ _ a0 a1 (by assumption) (by assumption) _).mono ?_); rintro e w' ⟨rfl, rfl⟩))
    go_tidy
    go_ret
    exact ⟨rfl, (by first | exact HB.out | exact byAlloc HB.out _)⟩
set_option maxRecDepth 100000 in
set_option maxHeartbeats 4000000 in
theorem dv87_s (op a b imm : Int) (ho : 28 ≤ op ∧ op ≤ 37) (a0 : 0 ≤ a) (a1 : a ≤ 4294967295) (b0 : 0 ≤ b) (b1 : b ≤ 4294967295) (i0 : 0 ≤ imm) (i1 : imm ≤ 4294967295) (w : World) :
    Calls Tryz.prog 59 #[.int .i64 op, .int .u32 a, .int .u32 b, .int .u32 imm] w fun e w' => e = .returned (.int .u32 (compF op a b imm)) ∧ w.grownBy w' none := by
  have HB := Lib.hid (byRefl w)
  have hc : op = 28 ∨ op = 29 ∨ op = 30 ∨ op = 31 ∨ op = 32 ∨ op = 33 ∨ op = 34 ∨ op = 35 ∨ op = 36 ∨ op = 37 := by omega
  rcases hc with rfl | rfl | rfl | rfl | rfl | rfl | rfl | rfl | rfl | rfl
  all_goals
    clear ho
    go_enter Tryz.func59, Tryz.ntmps59
    iterate 440 (first | (first | with_reducible refine wp_exit ?_ | with_reducible refine past_then ?_ | with_reducible refine past_block rfl ?_ | with_reducible refine at_block ?_) | ((fail_if_success go_at_call 97); (fail_if_success go_at_call 54); (fail_if_success go_at_call 93); (fail_if_success go_at_call 87); (fail_if_success go_at_call 88); (fail_if_success go_at_call 94); (fail_if_success go_at_call 95); (fail_if_success go_at_call 96); first | go_values | go_skip | go_guarded | go_step) | skip)
    go_wp2_with (first | (first | with_reducible refine wp_exit ?_ | with_reducible refine past_then ?_ | with_reducible refine past_block rfl ?_ | with_reducible refine at_block ?_) | (go_at_call 54; (with_reducible refine (c54 _ _ a0 a1 (by assumption) (by assumption) _).mono ?_); rintro e w' ⟨rfl, rfl⟩) | (go_at_call 93; (with_reducible refine (c93 _ _ a0 a1 (by assumption) (by assumption) _).mono ?_); rintro e w' ⟨rfl, rfl⟩) | (go_at_call 87; (with_reducible refine (c87 _ _ a0 a1 (by assumption) (by assumption) _).mono ?_); rintro e w' ⟨rfl, rfl⟩) | (go_at_call 88; (with_reducible refine (c88 _ _ a0 a1 (by assumption) (by assumption) _).mono ?_); rintro e w' ⟨rfl, rfl⟩) | (go_at_call 94; (with_reducible refine (c94 _ _ a0 a1 (by assumption) (by assumption) _).mono ?_); rintro e w' ⟨rfl, rfl⟩) | (go_at_call 95; (with_reducible refine (c95 _ _ a0 a1 (by assumption) (by assumption) _).mono ?_); rintro e w' ⟨rfl, rfl⟩) | (go_at_call 96; (with_reducible refine (c96 _ _ a0 a1 (by assumption) (by assumption) _).mono ?_); rintro e w' ⟨rfl, rfl⟩))
    go_tidy
    go_ret
    exact ⟨rfl, (by first | exact HB.out | exact byAlloc HB.out _)⟩
theorem dv87 (op a b imm : Int) (ho : 19 ≤ op ∧ op ≤ 45) (a0 : 0 ≤ a) (a1 : a ≤ 4294967295) (b0 : 0 ≤ b) (b1 : b ≤ 4294967295) (i0 : 0 ≤ imm) (i1 : imm ≤ 4294967295) (w : World) :
    Calls Tryz.prog 59 #[.int .i64 op, .int .u32 a, .int .u32 b, .int .u32 imm] w fun e w' => e = .returned (.int .u32 (compF op a b imm)) ∧ w.grownBy w' none := by
  by_cases h : op ≤ 27
  · exact dv87_i op a b imm ⟨ho.1, h⟩ a0 a1 b0 b1 i0 i1 w
  · by_cases h' : op ≤ 37
    · exact dv87_s op a b imm ⟨by omega, h'⟩ a0 a1 b0 b1 i0 i1 w
    · exact dv87_m op a b imm ⟨by omega, ho.2⟩ a0 a1 b0 b1 i0 i1 w
end Go.Proofs.YthhahfggbjegmaaGreat
