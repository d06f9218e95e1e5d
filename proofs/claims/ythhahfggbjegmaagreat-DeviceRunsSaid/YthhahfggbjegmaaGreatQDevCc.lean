/-
  The contracts of advance, Fail and skip (layer 3). The contract of skip (layer 3). The contract of execute (layer 3), begun: no instruction; lui; auipc. The contract of execute (layer 3) at lui.
-/
import Derived.Test.YthhahfggbjegmaaGreatQDevR
import Derived.Deep.MidRow
import Derived.Great.BuildSlice
import Derived.Great.Walk
import Derived.Outline
import Derived.LoopTactic
import Derived.Test.YthhahfggbjegmaaGreatQTab
import Derived.BigRegion
import Derived.RangeFuncOwn
namespace Go.Proofs.YthhahfggbjegmaaGreat
open Go.RowKit Go
set_option linter.unusedVariables false
set_option linter.unusedSimpArgs false
theorem dv60_yes (b : Nat) (f0 f1 f2 f3 f4 n39 : Int) (q0 : 0 ≤ n39) (q1 : n39 ≤ 1000000) (S1 S2 : World → Prop) (w : World)
    (H79 : Hid (Calls Tryz.prog 35 #[.pointer (some ⟨b, 0, none⟩)] w fun e w' => e = .returned (.agg #[.int .i64 f0, .int .i64 f1, .int .i64 f2, .int .i64 f3, .int .i64 f4]) ∧ S1 w'))
    (H78 : Hid (∀ w1, S1 w1 → Calls Tryz.prog 34 #[.pointer (some ⟨b, 0, none⟩), .agg #[.int .i64 f0, .int .i64 f1, .int .i64 f2, .int .i64 f3, .int .i64 f4]] w1 fun e w' => e = .returned (.bool true) ∧ S2 w'))
    (HC : Hid (∀ w2, S2 w2 → w2.cell? ⟨b, 39, none⟩ = some (.int .i64 n39) ∧ w2.frozen? ⟨b, 39, none⟩ = false)) :
    Calls Tryz.prog 26 #[.pointer (some ⟨b, 0, none⟩)] w fun e w' => e = .returned (.tuple #[]) ∧ ∃ w2, S2 w2 ∧ w' = w2.setCell ⟨b, 39, none⟩ (.int .i64 (n39 + 1)) := by
  go_enter Tryz.func26, Tryz.ntmps26
  go_wp2_with (first
    | (go_at_call 35; (with_reducible refine H79.out.mono ?_); rintro e w1 ⟨rfl, h1⟩; have HS1 := Lib.hid h1; clear h1)
    | (go_at_call 34; (with_reducible refine (H78.out _ HS1.out).mono ?_); rintro e w2 ⟨rfl, h2⟩; obtain ⟨c39, g39⟩ := HC.out _ h2; have HS2 := Lib.hid h2; clear h2))
  exact bodyPost_ret (v := .tuple #[]) (results_none rfl _ _ _) rfl ⟨rfl, w2, HS2.out, rfl⟩
theorem dv60_no (b : Nat) (f0 f1 f2 f3 f4 x : Int) (S1 S2 : World → Prop) (w : World)
    (H79 : Hid (Calls Tryz.prog 35 #[.pointer (some ⟨b, 0, none⟩)] w fun e w' => e = .returned (.agg #[.int .i64 f0, .int .i64 f1, .int .i64 f2, .int .i64 f3, .int .i64 f4]) ∧ S1 w'))
    (H78 : Hid (∀ w1, S1 w1 → Calls Tryz.prog 34 #[.pointer (some ⟨b, 0, none⟩), .agg #[.int .i64 f0, .int .i64 f1, .int .i64 f2, .int .i64 f3, .int .i64 f4]] w1 fun e w' => e = .returned (.bool false) ∧ S2 w'))
    (HC : Hid (∀ w2, S2 w2 → w2.cell? ⟨b, 40, none⟩ = some (.int .i64 x) ∧ w2.frozen? ⟨b, 40, none⟩ = false)) :
    Calls Tryz.prog 26 #[.pointer (some ⟨b, 0, none⟩)] w fun e w' => e = .returned (.tuple #[]) ∧ ∃ w2, S2 w2 ∧ w' = w2.setCell ⟨b, 40, none⟩ (.int .i64 2) := by
  go_enter Tryz.func26, Tryz.ntmps26
  go_wp2_with (first
    | (go_at_call 35; (with_reducible refine H79.out.mono ?_); rintro e w1 ⟨rfl, h1⟩; have HS1 := Lib.hid h1; clear h1)
    | (go_at_call 34; (with_reducible refine (H78.out _ HS1.out).mono ?_); rintro e w2 ⟨rfl, h2⟩; obtain ⟨c40, g40⟩ := HC.out _ h2; have HS2 := Lib.hid h2; clear h2))
  go_end0
  exact ⟨rfl, w2, HS2.out, rfl⟩
def zeros35 : List Value := List.replicate 35 (.int .u32 0)
theorem info93 : (Tryz.prog.info? 57).map (·.size) = some 35 := by kernel_rfl
set_option maxRecDepth 100000 in
theorem dv55 (b : Nat) (w : World) (hx : w.cell? ⟨b, 40, none⟩ = some (.int .i64 0)) (ht : w.there b 0 35) :
    Calls Tryz.prog 19 #[.pointer (some ⟨b, 0, none⟩)] w fun e w' => e = .returned (.tuple #[]) ∧ w' = w.setCells b 0 zeros35 := by
  have HT := Lib.hid ht
  clear ht
  have h1 : zeros35.toArray.all (·.oneCell') = true := by decide +kernel
  have H1 := Lib.hid h1
  clear h1
  go_enter Tryz.func19, Tryz.ntmps19
  apply wp_seq_k; intro K0 hK0
  have HK := Lib.hid hK0
  clear hK0
  go_wp2
  refine HK.out _ _ ?_
  clear HK
  iterate 3 (first | (with_reducible apply wp_region_lit) | go_step)
  refine Great.wpList_readTo rfl (some 11) rfl (.pointer (some ⟨b, 0, none⟩)) rfl ?_
  refine wpList_buildTo rfl 57 _ rfl (some 12) rfl zeros35.toArray (by as_aux_lemma => kernel_rfl) ?_
  refine Great.wpList_readTo rfl (some 13) rfl (.pointer (some ⟨b, 0, none⟩)) (by go_simp) ?_
  refine Great.wpList_readTo rfl (some 14) rfl (.pointer (some ⟨b, 0, none⟩)) (by go_simp) ?_
  refine wpList_store_mid rfl 57 (.tmp 14) (.tmp 12) rfl b 0 zeros35.toArray (by rfl) (by rfl) HT.out info93 H1.out ?_
  refine wpList_nil ?_
  go_end0
  exact ⟨rfl, rfl⟩
/-- A slice of numbers: nothing, or cells in a block. -/
def I64s (P : Nat → Prop) (w : World) (v : Value) (l : List Int) : Prop :=
  ∃ a c, v = .slice a l.length c ∧ l.length ≤ c ∧ c ≤ 9223372036854775807 ∧ (l = [] ∨ ∃ b o, a = some ⟨b, o, none⟩ ∧ P b ∧ ∀ k, k < l.length → w.cell? ⟨b, o + k, none⟩ = some (.int .i64 (l.getD k 0)))
def lenV : Value → Nat | .slice _ n _ => n | _ => 0
theorem I64s.tail {P : Nat → Prop} {w : World} {b o c n : Nat} {x : Int} {t : List Int} (hn : t.length = n) (hc : n + 1 ≤ c) (hcm : c ≤ 9223372036854775807) (hP : P b) (h : ∀ k, k < (x :: t).length → w.cell? ⟨b, o + k, none⟩ = some (.int .i64 ((x :: t).getD k 0))) :
    I64s P w (.slice (some ⟨b, o + 1, none⟩) n (c - 1)) t := by
  refine ⟨_, _, by rw [hn], by omega, by omega, .inr ⟨b, o + 1, rfl, hP, fun k hk => ?_⟩⟩
  have := h (k + 1) (by simp; omega)
  rw [show o + 1 + k = o + (k + 1) by omega, this]; rfl
theorem skip_lt {st x : Int} {t : List Int} (h : x < st) : skipM st (x :: t) = skipM st t := List.dropWhile_cons_of_pos (by simpa using h)
theorem skip_ge {st x : Int} {t : List Int} (h : ¬ x < st) : skipM st (x :: t) = x :: t := List.dropWhile_cons_of_neg (by simpa using h)
theorem dv59 (P : Nat → Prop) (v : Value) (l : List Int) (st : Int) (w : World) (h : I64s P w v l) :
    Calls Tryz.prog 27 #[v, .int .i64 st] w fun e w' => (∃ v', e = .returned v' ∧ I64s P w v' (skipM st l)) ∧ w = w' := by
  have H := Lib.hid h
  clear h
  have H0 : Hid (∃ l', I64s P w v l' ∧ skipM st l' = skipM st l) := Lib.hid ⟨l, H.out, rfl⟩
  go_enter Tryz.func27, Tryz.ntmps27
  go_wp2
  go_loop [0] (fun v => Hid (∃ l', I64s P w v l' ∧ skipM st l' = skipM st l)) (fun v => lenV v)
  case atStart => exact H0
  case round =>
    obtain ⟨l', ⟨a, c, rfl, hc, hcm, hl⟩, hs⟩ := hrel.out
    have hS := Lib.hid hs
    clear hs hrel H0
    cases l' with
    | nil =>
      clear hl hc
      go_wp2
      go_ret
      exact ⟨⟨_, rfl, by rw [← hS.out]; exact ⟨a, c, rfl, Nat.zero_le _, hcm, .inl rfl⟩⟩, rfl⟩
    | cons x t =>
      obtain ⟨b, o, rfl, hP, hcell⟩ := hl.resolve_left (by simp)
      have c0 : w.cell? ⟨b, o, none⟩ = some (.int .i64 x) := hcell 0 (by simp)
      have HC := Lib.hid hcell
      have HP := Lib.hid hP
      obtain ⟨n, hn⟩ : ∃ n, t.length = n := ⟨_, rfl⟩
      have e1 : (x :: t).length = n + 1 := by simp [hn]
      rw [e1]
      have e2 : n + 1 ≤ c := by omega
      have HN := Lib.hid hn
      clear hl hP hcell hn e1 hc
      by_cases hx : x < st
      · by_cases h1 : c = 1
        · obtain rfl : n = 0 := by omega
          subst h1
          go_wp2
          refine ⟨Lib.hid ⟨t, ⟨_, 0, by rw [HN.out], by rw [HN.out]; exact Nat.le_refl _, by omega, .inl (List.length_eq_zero_iff.1 HN.out)⟩, ?_⟩, by simp [lenV]⟩
          rw [← hS.out, skip_lt hx]
        · go_wp2
          refine ⟨Lib.hid ⟨t, I64s.tail HN.out e2 hcm HP.out HC.out, ?_⟩, by simp [lenV]⟩
          rw [← hS.out, skip_lt hx]
      · go_wp2
        go_ret
        refine ⟨⟨.slice (some ⟨b, o, none⟩) (n + 1) c, rfl, ?_⟩, rfl⟩
        rw [← hS.out, skip_ge (Int.not_lt.2 hx)]
        exact ⟨_, c, by rw [List.length_cons, HN.out], by rw [List.length_cons, HN.out]; exact e2, hcm, .inr ⟨b, o, rfl, HP.out, HC.out⟩⟩
set_option maxRecDepth 100000 in
set_option maxHeartbeats 2000000 in
theorem dv78_0 (b : Nat) (rd r1 r2 : Nat) (imm p x1 x2 : Int) (hr : rd < 32 ∧ r1 < 32 ∧ r2 < 32) (p0 : 0 ≤ p) (p1 : p ≤ 4294967295) (w : World) (hx : w.cell? ⟨b, 32, none⟩ = some (.int .u32 p))
    (h1 : w.cell? ⟨b, r1, none⟩ = some (.int .u32 x1)) (h2 : w.cell? ⟨b, r2, none⟩ = some (.int .u32 x2)) :
    Calls Tryz.prog 34 #[.pointer (some ⟨b, 0, none⟩), .agg #[.int .i64 0, .int .i64 rd, .int .i64 r1, .int .i64 r2, .int .i64 imm]] w fun e w' => e = .returned (.bool false) ∧ w.grownBy w' none := by
  obtain ⟨wI, hwI⟩ : ∃ wI : World, wI = w.alloc (.cells #[.int .i64 0, .int .i64 rd, .int .i64 r1, .int .i64 r2, .int .i64 imm] 70) := ⟨_, rfl⟩
  obtain ⟨bI, hbI⟩ : ∃ bI : Nat, bI = w.heap.size := ⟨_, rfl⟩
  have hgI : w.grownBy wI none := by rw [hwI]; exact byAlloc (byRefl w) _
  have HG := Lib.hid hgI
  have hA : wI.cell? ⟨b, 32, none⟩ = some (.int .u32 p) := hgI.cell hx (by simp)
  have hA1 : wI.cell? ⟨b, r1, none⟩ = some (.int .u32 x1) := hgI.cell h1 (by simp)
  have hA2 : wI.cell? ⟨b, r2, none⟩ = some (.int .u32 x2) := hgI.cell h2 (by simp)
  have z0 : wI.cell? ⟨bI, 0, none⟩ = some (.int .i64 0) := by rw [hwI, hbI]; exact row_cell w #[.int .i64 0, .int .i64 rd, .int .i64 r1, .int .i64 r2, .int .i64 imm] 70 0 (.int .i64 0) rfl
  have z1 : wI.cell? ⟨bI, 1, none⟩ = some (.int .i64 rd) := by rw [hwI, hbI]; exact row_cell w #[.int .i64 0, .int .i64 rd, .int .i64 r1, .int .i64 r2, .int .i64 imm] 70 1 (.int .i64 rd) rfl
  have z2 : wI.cell? ⟨bI, 2, none⟩ = some (.int .i64 r1) := by rw [hwI, hbI]; exact row_cell w #[.int .i64 0, .int .i64 rd, .int .i64 r1, .int .i64 r2, .int .i64 imm] 70 2 (.int .i64 r1) rfl
  have z3 : wI.cell? ⟨bI, 3, none⟩ = some (.int .i64 r2) := by rw [hwI, hbI]; exact row_cell w #[.int .i64 0, .int .i64 rd, .int .i64 r1, .int .i64 r2, .int .i64 imm] 70 3 (.int .i64 r2) rfl
  have z4 : wI.cell? ⟨bI, 4, none⟩ = some (.int .i64 imm) := by rw [hwI, hbI]; exact row_cell w #[.int .i64 0, .int .i64 rd, .int .i64 r1, .int .i64 r2, .int .i64 imm] 70 4 (.int .i64 imm) rfl
  obtain ⟨hr0, hr1, hr2⟩ := hr
  clear hx h1 h2 hgI
  go_enter Tryz.func34, Tryz.ntmps34
  iterate 40 (first | (first | with_reducible refine wp_exit ?_ | with_reducible refine past_then ?_ | with_reducible refine past_block rfl ?_ | with_reducible refine at_block ?_) | ((fail_if_success go_at_call 54); first | go_values | go_skip | go_guarded | go_step) | skip)
  rw [← hwI, ← hbI]
  clear hwI hbI
  go_quiet (fail)
  go_wp2_with (first | (first | with_reducible refine wp_exit ?_ | with_reducible refine past_then ?_ | with_reducible refine past_block rfl ?_ | with_reducible refine at_block ?_) | (go_at_call 54; (with_reducible refine (c54 p 4 p0 p1 (by decide) (by decide) _).mono ?_); rintro e w' ⟨rfl, rfl⟩))
  go_ret
  exact ⟨rfl, byDrewN HG.out _⟩
theorem set_cell {w : World} {n b r : Nat} {v : Int} {x : Value} (hr : r < 32) (h : w.cell? ⟨b, 32, none⟩ = some x) : (setW (w.drewN n) b r v).cell? ⟨b, 32, none⟩ = some x := by
  unfold setW
  split
  · exact h
  · exact (World.cell?_setCell_other _ _ _ _ (fun h => by injection h with _ h2 _; omega)).trans h
theorem set_frozen {w : World} {n b r : Nat} {v : Int} {a : Addr} (h : w.frozen? a = false) : (setW (w.drewN n) b r v).frozen? a = false := by
  unfold setW
  split
  · exact h
  · exact (World.frozen?_setCell _ _ _ _).trans h
set_option maxRecDepth 100000 in
set_option maxHeartbeats 2000000 in
theorem dv78_1 (b : Nat) (rd r1 r2 : Nat) (imm p x1 x2 : Int) (hr : rd < 32 ∧ r1 < 32 ∧ r2 < 32) (p0 : 0 ≤ p) (p1 : p ≤ 4294967295) (w : World) (hx : w.cell? ⟨b, 32, none⟩ = some (.int .u32 p))
    (h1 : w.cell? ⟨b, r1, none⟩ = some (.int .u32 x1)) (h2 : w.cell? ⟨b, r2, none⟩ = some (.int .u32 x2)) (xd : Int) (hd : w.cell? ⟨b, rd, none⟩ = some (.int .u32 xd)) (hf : w.frozen? ⟨b, rd, none⟩ = false) (hfp : w.frozen? ⟨b, 32, none⟩ = false) :
    Calls Tryz.prog 34 #[.pointer (some ⟨b, 0, none⟩), .agg #[.int .i64 1, .int .i64 rd, .int .i64 r1, .int .i64 r2, .int .i64 imm]] w fun e w' => e = .returned (.bool true) ∧ ∃ wI j, w.grownBy wI none ∧ w' = (setW (wI.drewN j) b rd (imm % 4294967296)).setCell ⟨b, 32, none⟩ (.int .u32 ((p + 4) % 4294967296)) := by
  obtain ⟨wI, hwI⟩ : ∃ wI : World, wI = w.alloc (.cells #[.int .i64 1, .int .i64 rd, .int .i64 r1, .int .i64 r2, .int .i64 imm] 70) := ⟨_, rfl⟩
  obtain ⟨bI, hbI⟩ : ∃ bI : Nat, bI = w.heap.size := ⟨_, rfl⟩
  have hgI : w.grownBy wI none := by rw [hwI]; exact byAlloc (byRefl w) _
  have HG := Lib.hid hgI
  have hfI : wI.frozen? ⟨b, rd, none⟩ = false := (frozen_kept hd hgI (by simp)).trans hf
  have hfpI : wI.frozen? ⟨b, 32, none⟩ = false := (frozen_kept hx hgI (by simp)).trans hfp
  have hA : wI.cell? ⟨b, 32, none⟩ = some (.int .u32 p) := hgI.cell hx (by simp)
  have hA1 : wI.cell? ⟨b, r1, none⟩ = some (.int .u32 x1) := hgI.cell h1 (by simp)
  have hA2 : wI.cell? ⟨b, r2, none⟩ = some (.int .u32 x2) := hgI.cell h2 (by simp)
  have z0 : wI.cell? ⟨bI, 0, none⟩ = some (.int .i64 1) := by rw [hwI, hbI]; exact row_cell w #[.int .i64 1, .int .i64 rd, .int .i64 r1, .int .i64 r2, .int .i64 imm] 70 0 (.int .i64 1) rfl
  have z1 : wI.cell? ⟨bI, 1, none⟩ = some (.int .i64 rd) := by rw [hwI, hbI]; exact row_cell w #[.int .i64 1, .int .i64 rd, .int .i64 r1, .int .i64 r2, .int .i64 imm] 70 1 (.int .i64 rd) rfl
  have z2 : wI.cell? ⟨bI, 2, none⟩ = some (.int .i64 r1) := by rw [hwI, hbI]; exact row_cell w #[.int .i64 1, .int .i64 rd, .int .i64 r1, .int .i64 r2, .int .i64 imm] 70 2 (.int .i64 r1) rfl
  have z3 : wI.cell? ⟨bI, 3, none⟩ = some (.int .i64 r2) := by rw [hwI, hbI]; exact row_cell w #[.int .i64 1, .int .i64 rd, .int .i64 r1, .int .i64 r2, .int .i64 imm] 70 3 (.int .i64 r2) rfl
  have z4 : wI.cell? ⟨bI, 4, none⟩ = some (.int .i64 imm) := by rw [hwI, hbI]; exact row_cell w #[.int .i64 1, .int .i64 rd, .int .i64 r1, .int .i64 r2, .int .i64 imm] 70 4 (.int .i64 imm) rfl
  obtain ⟨hr0, hr1, hr2⟩ := hr
  clear hx h1 h2 hgI
  go_enter Tryz.func34, Tryz.ntmps34
  iterate 40 (first | (first | with_reducible refine wp_exit ?_ | with_reducible refine past_then ?_ | with_reducible refine past_block rfl ?_ | with_reducible refine at_block ?_) | ((fail_if_success go_at_call 54); first | go_values | go_skip | go_guarded | go_step) | skip)
  rw [← hwI, ← hbI]
  clear hwI hbI
  have hS : ∀ (n : Nat) (v : Int), (setW (wI.drewN n) b rd v).cell? ⟨b, 32, none⟩ = some (.int .u32 p) := fun n v => set_cell hr0 hA
  have hSf : ∀ (n : Nat) (v : Int), (setW (wI.drewN n) b rd v).frozen? ⟨b, 32, none⟩ = false := fun n v => set_frozen hfpI
  have HD : ∀ n, Hid ((wI.drewN n).cell? ⟨b, rd, none⟩ = some (.int .u32 xd)) := fun n => Lib.hid (HG.out.cell hd (by simp))
  have HF : ∀ n, Hid ((wI.drewN n).frozen? ⟨b, rd, none⟩ = false) := fun n => Lib.hid (hfI)
  go_quiet (fail)
  go_wp2_with (first | (first | with_reducible refine wp_exit ?_ | with_reducible refine past_then ?_ | with_reducible refine past_block rfl ?_ | with_reducible refine at_block ?_) | (go_at_call 54; (with_reducible refine (c54 p 4 p0 p1 (by decide) (by decide) _).mono ?_); rintro e w' ⟨rfl, rfl⟩) | (go_at_call 55; (with_reducible refine (dv83 b rd _ xd hr0 _ (HD _).out (HF _).out).mono ?_); rintro e w' ⟨rfl, rfl⟩))
  go_ret
  exact ⟨rfl, _, _, HG.out, rfl⟩
end Go.Proofs.YthhahfggbjegmaaGreat
