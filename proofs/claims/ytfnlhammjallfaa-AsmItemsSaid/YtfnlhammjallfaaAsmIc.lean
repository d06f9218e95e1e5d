/-
  Items (layer 5): the walk of the law on items.
-/
import Derived.Test.YtfnlhammjallfaaAsmIb
import Derived.Test.YtfnlhammjallfaaAsmIa
import Derived.Test.YtfnlhammjallfaaAsmAw
namespace Go.Proofs.Ytfnlhammjallfaa.asmItems
open Go.RowKit
set_option linter.unusedVariables false
set_option linter.unusedSimpArgs false
theorem ref_one (x : It) (w v : World) (hv : Fr (fun _ => False) (w.alloc (.cells #[.int .i64 x.k, .int .i64 x.op, .int .i64 x.rd, .int .i64 x.r1, .int .i64 x.r2, .int .i64 x.imm, .int .i64 x.lab] 25)) v) : Calls Try.prog 12 #[.slice (some ⟨w.heap.size, 0, none⟩) 1 1] v fun e w' =>
    ∃ g o c, e = .returned (.slice (some ⟨g, o, none⟩) 1 c) ∧ Fr (fun _ => False) v w' ∧ w'.cell? ⟨g, o, none⟩ = some (.int .i64 x.k) ∧ w'.cell? ⟨g, o + 1, none⟩ = some (.int .i64 x.op) ∧ w'.cell? ⟨g, o + 2, none⟩ = some (.int .i64 x.rd) ∧ w'.cell? ⟨g, o + 3, none⟩ = some (.int .i64 x.r1) ∧ w'.cell? ⟨g, o + 4, none⟩ = some (.int .i64 x.r2) ∧ w'.cell? ⟨g, o + 5, none⟩ = some (.int .i64 x.imm) ∧ w'.cell? ⟨g, o + 6, none⟩ = some (.int .i64 x.lab) := by
  refine (c12 (some ⟨w.heap.size, 0, none⟩) 1 1 [x] rfl (by omega) _ (((itAt_new w [x] _ 25 rfl).fr hv (fun _ h => h.elim)).mono hv.size)).mono (fun e w' h => ?_)
  obtain ⟨a, c, rfl, hit, hf⟩ := h
  obtain ⟨g, o, rfl, _, c0, c1, c2, c3, c4, c5, c6⟩ := hit.get (Fr.refl (fun _ => False) w') (fun _ h => h.elim) 0 (by simp) x rfl
  exact ⟨g, o, c, rfl, hf, c0, c1, c2, c3, c4, c5, c6⟩
set_option maxRecDepth 100000 in
set_option maxHeartbeats 0 in
theorem walk (x : It) (n a b c d : Int) (n0 : 0 ≤ n) (n1 : n ≤ 4294967295) (w : World) :
    Calls Try.prog 3 #[.agg #[.int .i64 x.k, .int .i64 x.op, .int .i64 x.rd, .int .i64 x.r1, .int .i64 x.r2, .int .i64 x.imm, .int .i64 x.lab], .int .u32 n, .agg #[.int .i64 a, .int .i64 b, .int .i64 c, .int .i64 d]] w fun e w' => e = .returned (.bool true) ∧ Fr (fun _ => False) w w' := by
  have F0 : Hid (Fr (fun _ => False) w ((w.alloc (.cells #[.int .i64 x.k, .int .i64 x.op, .int .i64 x.rd, .int .i64 x.r1, .int .i64 x.r2, .int .i64 x.imm, .int .i64 x.lab] 25)).alloc (.cells #[.int .i64 a, .int .i64 b, .int .i64 c, .int .i64 d] 27))) := Lib.hid (fr_al (fr_al (Fr.refl _ _) _) _)
  have BX : Hid (∀ (j : Nat) (y : Value), (#[.int .i64 x.k, .int .i64 x.op, .int .i64 x.rd, .int .i64 x.r1, .int .i64 x.r2, .int .i64 x.imm, .int .i64 x.lab] : Array Value)[j]? = some y → ((w.alloc (.cells #[.int .i64 x.k, .int .i64 x.op, .int .i64 x.rd, .int .i64 x.r1, .int .i64 x.r2, .int .i64 x.imm, .int .i64 x.lab] 25)).alloc (.cells #[.int .i64 a, .int .i64 b, .int .i64 c, .int .i64 d] 27)).cell? ⟨w.heap.size, j, none⟩ = some y) := Lib.hid (fun j y h => (fr_al (Fr.refl (fun _ => False) _) _).cell (fcell w _ _ j y h) id)
  have BA : Hid (∀ (j : Nat) (y : Value), (#[.int .i64 a, .int .i64 b, .int .i64 c, .int .i64 d] : Array Value)[j]? = some y → ((w.alloc (.cells #[.int .i64 x.k, .int .i64 x.op, .int .i64 x.rd, .int .i64 x.r1, .int .i64 x.r2, .int .i64 x.imm, .int .i64 x.lab] 25)).alloc (.cells #[.int .i64 a, .int .i64 b, .int .i64 c, .int .i64 d] 27)).cell? ⟨w.heap.size + 1, j, none⟩ = some y) := Lib.hid (fun j y h => by have := fcell (w.alloc (.cells #[.int .i64 x.k, .int .i64 x.op, .int .i64 x.rd, .int .i64 x.r1, .int .i64 x.r2, .int .i64 x.imm, .int .i64 x.lab] 25)) _ 27 j y h; simpa using this)
  have KR := Lib.hid (c10 x)
  have KQ := Lib.hid (c11 x)
  have KC := Lib.hid (c13 a)
  have KD := Lib.hid (c14 a)
  have KF := Lib.hid (ref_one x)
  have hwn : IntKind.i64.wrap n = n := by simp [IntKind.wrap, IntKind.bits, IntKind.signed]; omega
  generalize rightB x = R at *
  generalize contr a = C at *
  go_enter Try.func3, Try.ntmps3
  go_wp2_with fail
  have hsz : w.heap.size < ((w.alloc (.cells #[.int .i64 x.k, .int .i64 x.op, .int .i64 x.rd, .int .i64 x.r1, .int .i64 x.r2, .int .i64 x.imm, .int .i64 x.lab] 25)).alloc (.cells #[.int .i64 a, .int .i64 b, .int .i64 c, .int .i64 d] 27)).heap.size := (by simp; omega)
  generalize ((w.alloc (.cells #[.int .i64 x.k, .int .i64 x.op, .int .i64 x.rd, .int .i64 x.r1, .int .i64 x.r2, .int .i64 x.imm, .int .i64 x.lab] 25)).alloc (.cells #[.int .i64 a, .int .i64 b, .int .i64 c, .int .i64 d] 27)) = W at *
  have x5 := BX.out 5 _ rfl
  have q0 := BA.out 0 _ rfl
  have q1 := BA.out 1 _ rfl
  have q2 := BA.out 2 _ rfl
  have q3 := BA.out 3 _ rfl
  go_quiet (fail)
  clear q0 q1 q2 q3
  go_wp2_with (first
    | (go_at_call 8; (with_reducible refine (c8 _ _ _ _ _ _).mono ?_); rintro e w1 ⟨rfl, hg⟩; have F1 : Hid (Fr (fun _ => False) W w1) := Lib.hid (Fr.trans ((Fr.refl _ W).drewN _) (Fr.of_grown hg)); clear hg))
  have FV : Hid (Fr (fun _ => False) W (w1.alloc (.cells #[.int .i64 1, .int .i64 a, .int .i64 b, .int .i64 c, .int .i64 d, .int .i64 x.imm, .int .i64 0] 25))) := Lib.hid (fr_al F1.out _)
  have BI : Hid (∀ (j : Nat) (y : Value), (#[.int .i64 1, .int .i64 a, .int .i64 b, .int .i64 c, .int .i64 d, .int .i64 x.imm, .int .i64 0] : Array Value)[j]? = some y → (w1.alloc (.cells #[.int .i64 1, .int .i64 a, .int .i64 b, .int .i64 c, .int .i64 d, .int .i64 x.imm, .int .i64 0] 25)).cell? ⟨w1.heap.size, j, none⟩ = some y) := Lib.hid (fun j y h => fcell w1 _ _ j y h)
  have BV : Hid (∀ (j : Nat) (y : Value), (#[.int .i64 x.k, .int .i64 x.op, .int .i64 x.rd, .int .i64 x.r1, .int .i64 x.r2, .int .i64 x.imm, .int .i64 x.lab] : Array Value)[j]? = some y → (w1.alloc (.cells #[.int .i64 1, .int .i64 a, .int .i64 b, .int .i64 c, .int .i64 d, .int .i64 x.imm, .int .i64 0] 25)).cell? ⟨w.heap.size, j, none⟩ = some y) := Lib.hid (fun j y h => FV.out.cell (BX.out j y h) id)
  have hV : w1.heap.size < (w1.alloc (.cells #[.int .i64 1, .int .i64 a, .int .i64 b, .int .i64 c, .int .i64 d, .int .i64 x.imm, .int .i64 0] 25)).heap.size := alloc_lt _ _
  clear x5 F1
  generalize w1.alloc (.cells #[.int .i64 1, .int .i64 a, .int .i64 b, .int .i64 c, .int .i64 d, .int .i64 x.imm, .int .i64 0] 25) = V at *
  generalize w1.heap.size = bi at *
  have HKW : Hid (∀ w', Fr (fun _ => False) V w' → Fr (fun _ => False) V w' ∧ w'.cell? ⟨w.heap.size, 0, none⟩ = some (.int .i64 x.k) ∧ w'.cell? ⟨w.heap.size, 1, none⟩ = some (.int .i64 x.op) ∧ w'.cell? ⟨w.heap.size, 2, none⟩ = some (.int .i64 x.rd) ∧ w'.cell? ⟨w.heap.size, 3, none⟩ = some (.int .i64 x.r1) ∧ w'.cell? ⟨w.heap.size, 4, none⟩ = some (.int .i64 x.r2) ∧ w'.cell? ⟨w.heap.size, 5, none⟩ = some (.int .i64 x.imm) ∧ w'.cell? ⟨w.heap.size, 6, none⟩ = some (.int .i64 x.lab) ∧ w'.cell? ⟨bi, 0, none⟩ = some (.int .i64 1) ∧ w'.cell? ⟨bi, 1, none⟩ = some (.int .i64 a) ∧ w'.cell? ⟨bi, 2, none⟩ = some (.int .i64 b) ∧ w'.cell? ⟨bi, 3, none⟩ = some (.int .i64 c) ∧ w'.cell? ⟨bi, 4, none⟩ = some (.int .i64 d) ∧ w'.cell? ⟨bi, 5, none⟩ = some (.int .i64 x.imm) ∧ w'.cell? ⟨bi, 6, none⟩ = some (.int .i64 0)) := Lib.hid (fun w' hf => ⟨hf, hf.cell (BV.out 0 _ rfl) id, hf.cell (BV.out 1 _ rfl) id, hf.cell (BV.out 2 _ rfl) id, hf.cell (BV.out 3 _ rfl) id, hf.cell (BV.out 4 _ rfl) id, hf.cell (BV.out 5 _ rfl) id, hf.cell (BV.out 6 _ rfl) id, hf.cell (BI.out 0 _ rfl) id, hf.cell (BI.out 1 _ rfl) id, hf.cell (BI.out 2 _ rfl) id, hf.cell (BI.out 3 _ rfl) id, hf.cell (BI.out 4 _ rfl) id, hf.cell (BI.out 5 _ rfl) id, hf.cell (BI.out 6 _ rfl) id⟩)
  dsimp only [List.append]
  refine wp_region_noPanic ?_
  refine wp_region_held_drew (S := fun w' => Fr (fun _ => False) V w' ∧ w'.cell? ⟨w.heap.size, 0, none⟩ = some (.int .i64 x.k) ∧ w'.cell? ⟨w.heap.size, 1, none⟩ = some (.int .i64 x.op) ∧ w'.cell? ⟨w.heap.size, 2, none⟩ = some (.int .i64 x.rd) ∧ w'.cell? ⟨w.heap.size, 3, none⟩ = some (.int .i64 x.r1) ∧ w'.cell? ⟨w.heap.size, 4, none⟩ = some (.int .i64 x.r2) ∧ w'.cell? ⟨w.heap.size, 5, none⟩ = some (.int .i64 x.imm) ∧ w'.cell? ⟨w.heap.size, 6, none⟩ = some (.int .i64 x.lab) ∧ w'.cell? ⟨bi, 0, none⟩ = some (.int .i64 1) ∧ w'.cell? ⟨bi, 1, none⟩ = some (.int .i64 a) ∧ w'.cell? ⟨bi, 2, none⟩ = some (.int .i64 b) ∧ w'.cell? ⟨bi, 3, none⟩ = some (.int .i64 c) ∧ w'.cell? ⟨bi, 4, none⟩ = some (.int .i64 d) ∧ w'.cell? ⟨bi, 5, none⟩ = some (.int .i64 x.imm) ∧ w'.cell? ⟨bi, 6, none⟩ = some (.int .i64 0)) (by kernel_rfl) ?_ (fun hHeld => ?_)
  · (try dsimp only); (first | assumption | exact HKW.out _ (Fr.refl _ _) | exact HKW.out _ ((Fr.refl _ _).drewN 1) | exact HKW.out _ (by assumption) | exact HKW.out _ (fr_al (And.left (by assumption)) _))
  refine wpAnyH_ready (rs := [0]) (by as_aux_lemma => kernel_rfl) (by simp) ?_
  refine AllReadyH.cons (o := _) ((List.getElem?_toArray ..).trans rfl) (fun K hK => ?_) AllReadyH.nil
  go_simp
  (first
      | (go_at_call 9; (with_reducible refine (c9 _).mono ?_); rintro e w2 ⟨rfl, hf⟩; have hff : Fr (fun _ => False) V w2 := Fr.trans (And.left (by assumption)) hf)
      | (go_at_call 10; (with_reducible refine (KR.out _).mono ?_); rintro e w3 ⟨rfl, hg⟩; have hf3 : Fr (fun _ => False) _ w3 := Fr.of_grown hg; have hff : Fr (fun _ => False) V w3 := Fr.trans (And.left (by assumption)) hf3; try (replace r0 := hf3.cell r0 id; replace r1 := hf3.cell r1 id; replace r2 := hf3.cell r2 id; replace r3 := hf3.cell r3 id; replace r4 := hf3.cell r4 id; replace r5 := hf3.cell r5 id; replace r6 := hf3.cell r6 id))
      | (go_at_call 12; (first | (with_reducible refine (KF.out _ _ (Fr.refl _ _)).mono ?_) | (with_reducible refine (KF.out _ _ hf3).mono ?_)); rintro e w4 ⟨rg, ro, rc, rfl, hf, r0, r1, r2, r3, r4, r5, r6⟩; have hff : Fr (fun _ => False) V w4 := (by first | exact Fr.trans hff hf | exact Fr.trans (And.left (by assumption)) hf | exact Fr.trans (fr_al hff _) hf | trace_state))
      | (go_at_call 11; (with_reducible refine (KQ.out _).mono ?_); rintro e w5 ⟨rfl, hg⟩; have hff : Fr (fun _ => False) V w5 := Fr.trans (And.left (by assumption)) (Fr.of_grown hg))
      | (go_at_call 13; (with_reducible refine (KC.out _).mono ?_); rintro e w6 ⟨rfl, rfl⟩)
      | (go_at_call 14; (with_reducible refine (KD.out _).mono ?_); rintro e w7 ⟨rfl, rfl⟩)
      | (go_at_call 15; (with_reducible refine (c15 _ _ n0 n1 _).mono ?_); rintro e w8 ⟨rfl, hg⟩; have hff : Fr (fun _ => False) V w8 := Fr.trans (And.left (by assumption)) (Fr.of_grown hg))
      | (go_at_call 16; (with_reducible refine (c16 _ _).mono ?_); rintro e w9 ⟨rfl, hg⟩; have hff : Fr (fun _ => False) V w9 := Fr.trans (And.left (by assumption)) (Fr.of_grown hg))
      | (go_at_call 17; (with_reducible refine (c17 _ _ _ _ _).mono ?_); rintro e w10 ⟨rfl, hg⟩; have hff : Fr (fun _ => False) V w10 := Fr.trans (And.left (by assumption)) (Fr.of_grown hg))
      | (go_at_call 18; (with_reducible refine (c18 _ _ _).mono ?_); rintro e w11 ⟨rfl, hg⟩; have hff : Fr (fun _ => False) V w11 := Fr.trans (And.left (by assumption)) (Fr.of_grown hg)))
  (try dsimp only)
  refine hK.out _ _ ?_ (fun hHeld2 => ?_)
  · (try dsimp only); (first | assumption | exact HKW.out _ (Fr.refl _ _) | exact HKW.out _ ((Fr.refl _ _).drewN 1) | exact HKW.out _ (by assumption) | exact HKW.out _ (fr_al (And.left (by assumption)) _))
  clear hK K hHeld
  have hHeld := hHeld2
  clear hHeld2
  (try simp only [Act.put, List.setIfInBounds_toArray, List.set_cons_zero, List.set_cons_succ])
  refine wpAnyH_take (i := 1) (v := ?v1) ((List.getElem?_toArray ..).trans rfl) (by as_aux_lemma => kernel_rfl) (by as_aux_lemma => kernel_rfl) (by as_aux_lemma => kernel_rfl) (fun _ _ _ h => h) (Or.inl ⟨by rfl, ?hy1⟩) hHeld ?rest1
  case hy1 => (intro w hSw; (try dsimp only at hSw); go_simp; first | done | with_reducible rfl)
  (try simp only [Act.put, List.setIfInBounds_toArray, List.set_cons_zero, List.set_cons_succ])
  refine wpAnyH_take (i := 2) (v := ?v2) ((List.getElem?_toArray ..).trans rfl) (by as_aux_lemma => kernel_rfl) (by as_aux_lemma => kernel_rfl) (by as_aux_lemma => kernel_rfl) (fun _ _ _ h => h) (Or.inl ⟨by rfl, ?hy2⟩) hHeld ?rest2
  case hy2 => (intro w hSw; (try dsimp only at hSw); go_simp; first | done | with_reducible rfl)
  (try simp only [Act.put, List.setIfInBounds_toArray, List.set_cons_zero, List.set_cons_succ])
  refine wpAnyH_take (i := 4) (v := ?v3) ((List.getElem?_toArray ..).trans rfl) (by as_aux_lemma => kernel_rfl) (by as_aux_lemma => kernel_rfl) (by as_aux_lemma => kernel_rfl) (fun _ _ _ h => h) (Or.inl ⟨by rfl, ?hy3⟩) hHeld ?rest3
  case hy3 => (intro w hSw; (try dsimp only at hSw); go_simp; first | done | with_reducible rfl)
  (try simp only [Act.put, List.setIfInBounds_toArray, List.set_cons_zero, List.set_cons_succ])
  refine wpAnyH_ready (rs := [3, 5]) (by as_aux_lemma => kernel_rfl) (by simp) ?_
  refine AllReadyH.cons (o := _) ((List.getElem?_toArray ..).trans rfl) (fun K hK => ?_) (AllReadyH.cons (o := _) ((List.getElem?_toArray ..).trans rfl) (fun K hK => ?_) AllReadyH.nil)
  · skip
    go_simp
    (first
        | (go_at_call 9; (with_reducible refine (c9 _).mono ?_); rintro e w2 ⟨rfl, hf⟩; have hff : Fr (fun _ => False) V w2 := Fr.trans (And.left (by assumption)) hf)
        | (go_at_call 10; (with_reducible refine (KR.out _).mono ?_); rintro e w3 ⟨rfl, hg⟩; have hf3 : Fr (fun _ => False) _ w3 := Fr.of_grown hg; have hff : Fr (fun _ => False) V w3 := Fr.trans (And.left (by assumption)) hf3; try (replace r0 := hf3.cell r0 id; replace r1 := hf3.cell r1 id; replace r2 := hf3.cell r2 id; replace r3 := hf3.cell r3 id; replace r4 := hf3.cell r4 id; replace r5 := hf3.cell r5 id; replace r6 := hf3.cell r6 id))
        | (go_at_call 12; (first | (with_reducible refine (KF.out _ _ (Fr.refl _ _)).mono ?_) | (with_reducible refine (KF.out _ _ hf3).mono ?_)); rintro e w4 ⟨rg, ro, rc, rfl, hf, r0, r1, r2, r3, r4, r5, r6⟩; have hff : Fr (fun _ => False) V w4 := (by first | exact Fr.trans hff hf | exact Fr.trans (And.left (by assumption)) hf | exact Fr.trans (fr_al hff _) hf | trace_state))
        | (go_at_call 11; (with_reducible refine (KQ.out _).mono ?_); rintro e w5 ⟨rfl, hg⟩; have hff : Fr (fun _ => False) V w5 := Fr.trans (And.left (by assumption)) (Fr.of_grown hg))
        | (go_at_call 13; (with_reducible refine (KC.out _).mono ?_); rintro e w6 ⟨rfl, rfl⟩)
        | (go_at_call 14; (with_reducible refine (KD.out _).mono ?_); rintro e w7 ⟨rfl, rfl⟩)
        | (go_at_call 15; (with_reducible refine (c15 _ _ n0 n1 _).mono ?_); rintro e w8 ⟨rfl, hg⟩; have hff : Fr (fun _ => False) V w8 := Fr.trans (And.left (by assumption)) (Fr.of_grown hg))
        | (go_at_call 16; (with_reducible refine (c16 _ _).mono ?_); rintro e w9 ⟨rfl, hg⟩; have hff : Fr (fun _ => False) V w9 := Fr.trans (And.left (by assumption)) (Fr.of_grown hg))
        | (go_at_call 17; (with_reducible refine (c17 _ _ _ _ _).mono ?_); rintro e w10 ⟨rfl, hg⟩; have hff : Fr (fun _ => False) V w10 := Fr.trans (And.left (by assumption)) (Fr.of_grown hg))
        | (go_at_call 18; (with_reducible refine (c18 _ _ _).mono ?_); rintro e w11 ⟨rfl, hg⟩; have hff : Fr (fun _ => False) V w11 := Fr.trans (And.left (by assumption)) (Fr.of_grown hg)))
    (try dsimp only)
    refine hK.out _ _ ?_ (fun hHeld2 => ?_)
    · (try dsimp only); (first | assumption | exact HKW.out _ (Fr.refl _ _) | exact HKW.out _ ((Fr.refl _ _).drewN 1) | exact HKW.out _ (by assumption) | exact HKW.out _ (fr_al (And.left (by assumption)) _))
    clear hK K hHeld
    have hHeld := hHeld2
    clear hHeld2
    (try simp only [Act.put, List.setIfInBounds_toArray, List.set_cons_zero, List.set_cons_succ])
    refine wpAnyH_ready (rs := [5]) (by as_aux_lemma => kernel_rfl) (by simp) ?_
    refine AllReadyH.cons (o := _) ((List.getElem?_toArray ..).trans rfl) (fun K hK => ?_) AllReadyH.nil
    go_simp
    refine hK.out _ _ ?_ (fun hHeld2 => ?_)
    · (try dsimp only); (first | assumption | exact HKW.out _ (Fr.refl _ _) | exact HKW.out _ ((Fr.refl _ _).drewN 1) | exact HKW.out _ (by assumption) | exact HKW.out _ (fr_al (And.left (by assumption)) _))
    clear hK K hHeld
    have hHeld := hHeld2
    clear hHeld2
    (try simp only [Act.put, List.setIfInBounds_toArray, List.set_cons_zero, List.set_cons_succ])
    refine wpAnyH_ready (rs := [6]) (by as_aux_lemma => kernel_rfl) (by simp) ?_
    refine AllReadyH.cons (o := _) ((List.getElem?_toArray ..).trans rfl) (fun K hK => ?_) AllReadyH.nil
    go_simp
    (first
        | (go_at_call 9; (with_reducible refine (c9 _).mono ?_); rintro e w2 ⟨rfl, hf⟩; have hff : Fr (fun _ => False) V w2 := Fr.trans (And.left (by assumption)) hf)
        | (go_at_call 10; (with_reducible refine (KR.out _).mono ?_); rintro e w3 ⟨rfl, hg⟩; have hf3 : Fr (fun _ => False) _ w3 := Fr.of_grown hg; have hff : Fr (fun _ => False) V w3 := Fr.trans (And.left (by assumption)) hf3; try (replace r0 := hf3.cell r0 id; replace r1 := hf3.cell r1 id; replace r2 := hf3.cell r2 id; replace r3 := hf3.cell r3 id; replace r4 := hf3.cell r4 id; replace r5 := hf3.cell r5 id; replace r6 := hf3.cell r6 id))
        | (go_at_call 12; (first | (with_reducible refine (KF.out _ _ (Fr.refl _ _)).mono ?_) | (with_reducible refine (KF.out _ _ hf3).mono ?_)); rintro e w4 ⟨rg, ro, rc, rfl, hf, r0, r1, r2, r3, r4, r5, r6⟩; have hff : Fr (fun _ => False) V w4 := (by first | exact Fr.trans hff hf | exact Fr.trans (And.left (by assumption)) hf | exact Fr.trans (fr_al hff _) hf | trace_state))
        | (go_at_call 11; (with_reducible refine (KQ.out _).mono ?_); rintro e w5 ⟨rfl, hg⟩; have hff : Fr (fun _ => False) V w5 := Fr.trans (And.left (by assumption)) (Fr.of_grown hg))
        | (go_at_call 13; (with_reducible refine (KC.out _).mono ?_); rintro e w6 ⟨rfl, rfl⟩)
        | (go_at_call 14; (with_reducible refine (KD.out _).mono ?_); rintro e w7 ⟨rfl, rfl⟩)
        | (go_at_call 15; (with_reducible refine (c15 _ _ n0 n1 _).mono ?_); rintro e w8 ⟨rfl, hg⟩; have hff : Fr (fun _ => False) V w8 := Fr.trans (And.left (by assumption)) (Fr.of_grown hg))
        | (go_at_call 16; (with_reducible refine (c16 _ _).mono ?_); rintro e w9 ⟨rfl, hg⟩; have hff : Fr (fun _ => False) V w9 := Fr.trans (And.left (by assumption)) (Fr.of_grown hg))
        | (go_at_call 17; (with_reducible refine (c17 _ _ _ _ _).mono ?_); rintro e w10 ⟨rfl, hg⟩; have hff : Fr (fun _ => False) V w10 := Fr.trans (And.left (by assumption)) (Fr.of_grown hg))
        | (go_at_call 18; (with_reducible refine (c18 _ _ _).mono ?_); rintro e w11 ⟨rfl, hg⟩; have hff : Fr (fun _ => False) V w11 := Fr.trans (And.left (by assumption)) (Fr.of_grown hg)))
    (try dsimp only)
    refine hK.out _ _ ?_ (fun hHeld2 => ?_)
    · (try dsimp only); (first | assumption | exact HKW.out _ (Fr.refl _ _) | exact HKW.out _ ((Fr.refl _ _).drewN 1) | exact HKW.out _ (by assumption) | exact HKW.out _ (fr_al (And.left (by assumption)) _))
    clear hK K hHeld
    have hHeld := hHeld2
    clear hHeld2
    (try simp only [Act.put, List.setIfInBounds_toArray, List.set_cons_zero, List.set_cons_succ])
    refine wpAnyH_take (i := 7) (v := ?v4) ((List.getElem?_toArray ..).trans rfl) (by as_aux_lemma => kernel_rfl) (by as_aux_lemma => kernel_rfl) (by as_aux_lemma => kernel_rfl) (fun _ _ _ h => h) (Or.inl ⟨by rfl, ?hy4⟩) hHeld ?rest4
    case hy4 => (intro w hSw; (try dsimp only at hSw); go_simp; first | done | with_reducible rfl)
    (try simp only [Act.put, List.setIfInBounds_toArray, List.set_cons_zero, List.set_cons_succ])
    refine wpAnyH_ready (rs := [8]) (by as_aux_lemma => kernel_rfl) (by simp) ?_
    refine AllReadyH.cons (o := _) ((List.getElem?_toArray ..).trans rfl) (fun K hK => ?_) AllReadyH.nil
    go_simp
    refine hK.out _ _ ?_ (fun hHeld2 => ?_)
    · (try dsimp only); (first | assumption | exact HKW.out _ (Fr.refl _ _) | exact HKW.out _ ((Fr.refl _ _).drewN 1) | exact HKW.out _ (by assumption) | exact HKW.out _ (fr_al (And.left (by assumption)) _))
    clear hK K hHeld
    have hHeld := hHeld2
    clear hHeld2
    (try simp only [Act.put, List.setIfInBounds_toArray, List.set_cons_zero, List.set_cons_succ])
    refine wpAnyH_ready (rs := [9]) (by as_aux_lemma => kernel_rfl) (by simp) ?_
    refine AllReadyH.cons (o := _) ((List.getElem?_toArray ..).trans rfl) (fun K hK => ?_) AllReadyH.nil
    go_simp
    (first
        | (go_at_call 9; (with_reducible refine (c9 _).mono ?_); rintro e w2 ⟨rfl, hf⟩; have hff : Fr (fun _ => False) V w2 := Fr.trans (And.left (by assumption)) hf)
        | (go_at_call 10; (with_reducible refine (KR.out _).mono ?_); rintro e w3 ⟨rfl, hg⟩; have hf3 : Fr (fun _ => False) _ w3 := Fr.of_grown hg; have hff : Fr (fun _ => False) V w3 := Fr.trans (And.left (by assumption)) hf3; try (replace r0 := hf3.cell r0 id; replace r1 := hf3.cell r1 id; replace r2 := hf3.cell r2 id; replace r3 := hf3.cell r3 id; replace r4 := hf3.cell r4 id; replace r5 := hf3.cell r5 id; replace r6 := hf3.cell r6 id))
        | (go_at_call 12; (first | (with_reducible refine (KF.out _ _ (Fr.refl _ _)).mono ?_) | (with_reducible refine (KF.out _ _ hf3).mono ?_)); rintro e w4 ⟨rg, ro, rc, rfl, hf, r0, r1, r2, r3, r4, r5, r6⟩; have hff : Fr (fun _ => False) V w4 := (by first | exact Fr.trans hff hf | exact Fr.trans (And.left (by assumption)) hf | exact Fr.trans (fr_al hff _) hf | trace_state))
        | (go_at_call 11; (with_reducible refine (KQ.out _).mono ?_); rintro e w5 ⟨rfl, hg⟩; have hff : Fr (fun _ => False) V w5 := Fr.trans (And.left (by assumption)) (Fr.of_grown hg))
        | (go_at_call 13; (with_reducible refine (KC.out _).mono ?_); rintro e w6 ⟨rfl, rfl⟩)
        | (go_at_call 14; (with_reducible refine (KD.out _).mono ?_); rintro e w7 ⟨rfl, rfl⟩)
        | (go_at_call 15; (with_reducible refine (c15 _ _ n0 n1 _).mono ?_); rintro e w8 ⟨rfl, hg⟩; have hff : Fr (fun _ => False) V w8 := Fr.trans (And.left (by assumption)) (Fr.of_grown hg))
        | (go_at_call 16; (with_reducible refine (c16 _ _).mono ?_); rintro e w9 ⟨rfl, hg⟩; have hff : Fr (fun _ => False) V w9 := Fr.trans (And.left (by assumption)) (Fr.of_grown hg))
        | (go_at_call 17; (with_reducible refine (c17 _ _ _ _ _).mono ?_); rintro e w10 ⟨rfl, hg⟩; have hff : Fr (fun _ => False) V w10 := Fr.trans (And.left (by assumption)) (Fr.of_grown hg))
        | (go_at_call 18; (with_reducible refine (c18 _ _ _).mono ?_); rintro e w11 ⟨rfl, hg⟩; have hff : Fr (fun _ => False) V w11 := Fr.trans (And.left (by assumption)) (Fr.of_grown hg)))
    (try dsimp only)
    refine hK.out _ _ ?_ (fun hHeld2 => ?_)
    · (try dsimp only); (first | assumption | exact HKW.out _ (Fr.refl _ _) | exact HKW.out _ ((Fr.refl _ _).drewN 1) | exact HKW.out _ (by assumption) | exact HKW.out _ (fr_al (And.left (by assumption)) _))
    clear hK K hHeld
    have hHeld := hHeld2
    clear hHeld2
    (try simp only [Act.put, List.setIfInBounds_toArray, List.set_cons_zero, List.set_cons_succ])
    refine wpAnyH_take (i := 10) (v := ?v5) ((List.getElem?_toArray ..).trans rfl) (by as_aux_lemma => kernel_rfl) (by as_aux_lemma => kernel_rfl) (by as_aux_lemma => kernel_rfl) (fun _ _ _ h => h) (Or.inl ⟨by rfl, ?hy5⟩) hHeld ?rest5
    case hy5 => (intro w hSw; (try dsimp only at hSw); go_simp; first | done | with_reducible rfl)
    (try simp only [Act.put, List.setIfInBounds_toArray, List.set_cons_zero, List.set_cons_succ])
    refine wpAnyH_take (i := 11) (v := ?v6) ((List.getElem?_toArray ..).trans rfl) (by as_aux_lemma => kernel_rfl) (by as_aux_lemma => kernel_rfl) (by as_aux_lemma => kernel_rfl) (fun _ _ _ h => h) (Or.inl ⟨by rfl, ?hy6⟩) hHeld ?rest6
    case hy6 => (intro w hSw; (try dsimp only at hSw); go_simp; first | done | with_reducible rfl)
    (try simp only [Act.put, List.setIfInBounds_toArray, List.set_cons_zero, List.set_cons_succ])
    refine wpAnyH_take (i := 12) (v := ?v7) ((List.getElem?_toArray ..).trans rfl) (by as_aux_lemma => kernel_rfl) (by as_aux_lemma => kernel_rfl) (by as_aux_lemma => kernel_rfl) (fun _ _ _ h => h) (Or.inl ⟨by rfl, ?hy7⟩) hHeld ?rest7
    case hy7 => (intro w hSw; (try dsimp only at hSw); go_simp; first | done | with_reducible rfl)
    (try simp only [Act.put, List.setIfInBounds_toArray, List.set_cons_zero, List.set_cons_succ])
    refine wpAnyH_take (i := 13) (v := ?v8) ((List.getElem?_toArray ..).trans rfl) (by as_aux_lemma => kernel_rfl) (by as_aux_lemma => kernel_rfl) (by as_aux_lemma => kernel_rfl) (fun _ _ _ h => h) (Or.inl ⟨by rfl, ?hy8⟩) hHeld ?rest8
    case hy8 => (intro w hSw; (try dsimp only at hSw); go_simp; first | done | with_reducible rfl)
    (try simp only [Act.put, List.setIfInBounds_toArray, List.set_cons_zero, List.set_cons_succ])
    refine wpAnyH_take (i := 15) (v := ?v9) ((List.getElem?_toArray ..).trans rfl) (by as_aux_lemma => kernel_rfl) (by as_aux_lemma => kernel_rfl) (by as_aux_lemma => kernel_rfl) (fun _ _ _ h => h) (Or.inl ⟨by rfl, ?hy9⟩) hHeld ?rest9
    case hy9 => (intro w hSw; (try dsimp only at hSw); go_simp; first | done | with_reducible rfl)
    (try simp only [Act.put, List.setIfInBounds_toArray, List.set_cons_zero, List.set_cons_succ])
    refine wpAnyH_ready (rs := [14]) (by as_aux_lemma => kernel_rfl) (by simp) ?_
    refine AllReadyH.cons (o := _) ((List.getElem?_toArray ..).trans rfl) (fun K hK => ?_) AllReadyH.nil
    go_simp
    (first
        | (go_at_call 9; (with_reducible refine (c9 _).mono ?_); rintro e w2 ⟨rfl, hf⟩; have hff : Fr (fun _ => False) V w2 := Fr.trans (And.left (by assumption)) hf)
        | (go_at_call 10; (with_reducible refine (KR.out _).mono ?_); rintro e w3 ⟨rfl, hg⟩; have hf3 : Fr (fun _ => False) _ w3 := Fr.of_grown hg; have hff : Fr (fun _ => False) V w3 := Fr.trans (And.left (by assumption)) hf3; try (replace r0 := hf3.cell r0 id; replace r1 := hf3.cell r1 id; replace r2 := hf3.cell r2 id; replace r3 := hf3.cell r3 id; replace r4 := hf3.cell r4 id; replace r5 := hf3.cell r5 id; replace r6 := hf3.cell r6 id))
        | (go_at_call 12; (first | (with_reducible refine (KF.out _ _ (Fr.refl _ _)).mono ?_) | (with_reducible refine (KF.out _ _ hf3).mono ?_)); rintro e w4 ⟨rg, ro, rc, rfl, hf, r0, r1, r2, r3, r4, r5, r6⟩; have hff : Fr (fun _ => False) V w4 := (by first | exact Fr.trans hff hf | exact Fr.trans (And.left (by assumption)) hf | exact Fr.trans (fr_al hff _) hf | trace_state))
        | (go_at_call 11; (with_reducible refine (KQ.out _).mono ?_); rintro e w5 ⟨rfl, hg⟩; have hff : Fr (fun _ => False) V w5 := Fr.trans (And.left (by assumption)) (Fr.of_grown hg))
        | (go_at_call 13; (with_reducible refine (KC.out _).mono ?_); rintro e w6 ⟨rfl, rfl⟩)
        | (go_at_call 14; (with_reducible refine (KD.out _).mono ?_); rintro e w7 ⟨rfl, rfl⟩)
        | (go_at_call 15; (with_reducible refine (c15 _ _ n0 n1 _).mono ?_); rintro e w8 ⟨rfl, hg⟩; have hff : Fr (fun _ => False) V w8 := Fr.trans (And.left (by assumption)) (Fr.of_grown hg))
        | (go_at_call 16; (with_reducible refine (c16 _ _).mono ?_); rintro e w9 ⟨rfl, hg⟩; have hff : Fr (fun _ => False) V w9 := Fr.trans (And.left (by assumption)) (Fr.of_grown hg))
        | (go_at_call 17; (with_reducible refine (c17 _ _ _ _ _).mono ?_); rintro e w10 ⟨rfl, hg⟩; have hff : Fr (fun _ => False) V w10 := Fr.trans (And.left (by assumption)) (Fr.of_grown hg))
        | (go_at_call 18; (with_reducible refine (c18 _ _ _).mono ?_); rintro e w11 ⟨rfl, hg⟩; have hff : Fr (fun _ => False) V w11 := Fr.trans (And.left (by assumption)) (Fr.of_grown hg)))
    (try dsimp only)
    refine hK.out _ _ ?_ (fun hHeld2 => ?_)
    · (try dsimp only); (first | assumption | exact HKW.out _ (Fr.refl _ _) | exact HKW.out _ ((Fr.refl _ _).drewN 1) | exact HKW.out _ (by assumption) | exact HKW.out _ (fr_al (And.left (by assumption)) _))
    clear hK K hHeld
    have hHeld := hHeld2
    clear hHeld2
    (try simp only [Act.put, List.setIfInBounds_toArray, List.set_cons_zero, List.set_cons_succ])
    refine wpAnyH_ready (rs := [16]) (by as_aux_lemma => kernel_rfl) (by simp) ?_
    refine AllReadyH.cons (o := _) ((List.getElem?_toArray ..).trans rfl) (fun K hK => ?_) AllReadyH.nil
    go_simp
    (first
        | (go_at_call 9; (with_reducible refine (c9 _).mono ?_); rintro e w2 ⟨rfl, hf⟩; have hff : Fr (fun _ => False) V w2 := Fr.trans (And.left (by assumption)) hf)
        | (go_at_call 10; (with_reducible refine (KR.out _).mono ?_); rintro e w3 ⟨rfl, hg⟩; have hf3 : Fr (fun _ => False) _ w3 := Fr.of_grown hg; have hff : Fr (fun _ => False) V w3 := Fr.trans (And.left (by assumption)) hf3; try (replace r0 := hf3.cell r0 id; replace r1 := hf3.cell r1 id; replace r2 := hf3.cell r2 id; replace r3 := hf3.cell r3 id; replace r4 := hf3.cell r4 id; replace r5 := hf3.cell r5 id; replace r6 := hf3.cell r6 id))
        | (go_at_call 12; (first | (with_reducible refine (KF.out _ _ (Fr.refl _ _)).mono ?_) | (with_reducible refine (KF.out _ _ hf3).mono ?_)); rintro e w4 ⟨rg, ro, rc, rfl, hf, r0, r1, r2, r3, r4, r5, r6⟩; have hff : Fr (fun _ => False) V w4 := (by first | exact Fr.trans hff hf | exact Fr.trans (And.left (by assumption)) hf | exact Fr.trans (fr_al hff _) hf | trace_state))
        | (go_at_call 11; (with_reducible refine (KQ.out _).mono ?_); rintro e w5 ⟨rfl, hg⟩; have hff : Fr (fun _ => False) V w5 := Fr.trans (And.left (by assumption)) (Fr.of_grown hg))
        | (go_at_call 13; (with_reducible refine (KC.out _).mono ?_); rintro e w6 ⟨rfl, rfl⟩)
        | (go_at_call 14; (with_reducible refine (KD.out _).mono ?_); rintro e w7 ⟨rfl, rfl⟩)
        | (go_at_call 15; (with_reducible refine (c15 _ _ n0 n1 _).mono ?_); rintro e w8 ⟨rfl, hg⟩; have hff : Fr (fun _ => False) V w8 := Fr.trans (And.left (by assumption)) (Fr.of_grown hg))
        | (go_at_call 16; (with_reducible refine (c16 _ _).mono ?_); rintro e w9 ⟨rfl, hg⟩; have hff : Fr (fun _ => False) V w9 := Fr.trans (And.left (by assumption)) (Fr.of_grown hg))
        | (go_at_call 17; (with_reducible refine (c17 _ _ _ _ _).mono ?_); rintro e w10 ⟨rfl, hg⟩; have hff : Fr (fun _ => False) V w10 := Fr.trans (And.left (by assumption)) (Fr.of_grown hg))
        | (go_at_call 18; (with_reducible refine (c18 _ _ _).mono ?_); rintro e w11 ⟨rfl, hg⟩; have hff : Fr (fun _ => False) V w11 := Fr.trans (And.left (by assumption)) (Fr.of_grown hg)))
    (try dsimp only)
    refine hK.out _ _ ?_ (fun hHeld2 => ?_)
    · (try dsimp only); (first | assumption | exact HKW.out _ (Fr.refl _ _) | exact HKW.out _ ((Fr.refl _ _).drewN 1) | exact HKW.out _ (by assumption) | exact HKW.out _ (fr_al (And.left (by assumption)) _))
    clear hK K hHeld
    have hHeld := hHeld2
    clear hHeld2
    (try simp only [Act.put, List.setIfInBounds_toArray, List.set_cons_zero, List.set_cons_succ])
    refine wpAnyH_take (i := 17) (v := ?v10) ((List.getElem?_toArray ..).trans rfl) (by as_aux_lemma => kernel_rfl) (by as_aux_lemma => kernel_rfl) (by as_aux_lemma => kernel_rfl) (fun _ _ _ h => h) (Or.inl ⟨by rfl, ?hy10⟩) hHeld ?rest10
    case hy10 => (intro w hSw; (try dsimp only at hSw); go_simp; first | done | with_reducible rfl)
    (try simp only [Act.put, List.setIfInBounds_toArray, List.set_cons_zero, List.set_cons_succ])
    refine wpAnyH_take (i := 18) (v := ?v11) ((List.getElem?_toArray ..).trans rfl) (by as_aux_lemma => kernel_rfl) (by as_aux_lemma => kernel_rfl) (by as_aux_lemma => kernel_rfl) (fun _ _ _ h => h) (Or.inl ⟨by rfl, ?hy11⟩) hHeld ?rest11
    case hy11 => (intro w hSw; (try dsimp only at hSw); go_simp; first | done | with_reducible rfl)
    (try simp only [Act.put, List.setIfInBounds_toArray, List.set_cons_zero, List.set_cons_succ])
    refine wpAnyH_take (i := 19) (v := ?v12) ((List.getElem?_toArray ..).trans rfl) (by as_aux_lemma => kernel_rfl) (by as_aux_lemma => kernel_rfl) (by as_aux_lemma => kernel_rfl) (fun _ _ _ h => h) (Or.inl ⟨by rfl, ?hy12⟩) hHeld ?rest12
    case hy12 => (intro w hSw; (try dsimp only at hSw); go_simp; first | done | with_reducible rfl)
    (try simp only [Act.put, List.setIfInBounds_toArray, List.set_cons_zero, List.set_cons_succ])
    refine wpAnyH_take (i := 20) (v := ?v13) ((List.getElem?_toArray ..).trans rfl) (by as_aux_lemma => kernel_rfl) (by as_aux_lemma => kernel_rfl) (by as_aux_lemma => kernel_rfl) (fun _ _ _ h => h) (Or.inl ⟨by rfl, ?hy13⟩) hHeld ?rest13
    case hy13 => (intro w hSw; (try dsimp only at hSw); go_simp; first | done | with_reducible rfl)
    (try simp only [Act.put, List.setIfInBounds_toArray, List.set_cons_zero, List.set_cons_succ])
    refine wpAnyH_take (i := 21) (v := ?v14) ((List.getElem?_toArray ..).trans rfl) (by as_aux_lemma => kernel_rfl) (by as_aux_lemma => kernel_rfl) (by as_aux_lemma => kernel_rfl) (fun _ _ _ h => h) (Or.inl ⟨by rfl, ?hy14⟩) hHeld ?rest14
    case hy14 => (intro w hSw; (try dsimp only at hSw); go_simp; first | done | with_reducible rfl)
    (try simp only [Act.put, List.setIfInBounds_toArray, List.set_cons_zero, List.set_cons_succ])
    refine wpAnyH_take (i := 22) (v := ?v15) ((List.getElem?_toArray ..).trans rfl) (by as_aux_lemma => kernel_rfl) (by as_aux_lemma => kernel_rfl) (by as_aux_lemma => kernel_rfl) (fun _ _ _ h => h) (Or.inl ⟨by rfl, ?hy15⟩) hHeld ?rest15
    case hy15 => (intro w hSw; (try dsimp only at hSw); go_simp; first | done | with_reducible rfl)
    (try simp only [Act.put, List.setIfInBounds_toArray, List.set_cons_zero, List.set_cons_succ])
    refine wpAnyH_take (i := 23) (v := ?v16) ((List.getElem?_toArray ..).trans rfl) (by as_aux_lemma => kernel_rfl) (by as_aux_lemma => kernel_rfl) (by as_aux_lemma => kernel_rfl) (fun _ _ _ h => h) (Or.inl ⟨by rfl, ?hy16⟩) hHeld ?rest16
    case hy16 => (intro w hSw; (try dsimp only at hSw); go_simp; first | done | with_reducible rfl)
    (try simp only [Act.put, List.setIfInBounds_toArray, List.set_cons_zero, List.set_cons_succ])
    refine wpAnyH_take (i := 24) (v := ?v17) ((List.getElem?_toArray ..).trans rfl) (by as_aux_lemma => kernel_rfl) (by as_aux_lemma => kernel_rfl) (by as_aux_lemma => kernel_rfl) (fun _ _ _ h => h) (Or.inl ⟨by rfl, ?hy17⟩) hHeld ?rest17
    case hy17 => (intro w hSw; (try dsimp only at hSw); go_simp; first | done | with_reducible rfl)
    (try simp only [Act.put, List.setIfInBounds_toArray, List.set_cons_zero, List.set_cons_succ])
    refine wpAnyH_take (i := 25) (v := ?v18) ((List.getElem?_toArray ..).trans rfl) (by as_aux_lemma => kernel_rfl) (by as_aux_lemma => kernel_rfl) (by as_aux_lemma => kernel_rfl) (fun _ _ _ h => h) (Or.inl ⟨by rfl, ?hy18⟩) hHeld ?rest18
    case hy18 => (intro w hSw; (try dsimp only at hSw); go_simp; first | done | with_reducible rfl)
    (try simp only [Act.put, List.setIfInBounds_toArray, List.set_cons_zero, List.set_cons_succ])
    refine wpAnyH_take (i := 26) (v := ?v19) ((List.getElem?_toArray ..).trans rfl) (by as_aux_lemma => kernel_rfl) (by as_aux_lemma => kernel_rfl) (by as_aux_lemma => kernel_rfl) (fun _ _ _ h => h) (Or.inl ⟨by rfl, ?hy19⟩) hHeld ?rest19
    case hy19 => (intro w hSw; (try dsimp only at hSw); go_simp; first | done | with_reducible rfl)
    (try simp only [Act.put, List.setIfInBounds_toArray, List.set_cons_zero, List.set_cons_succ])
    refine wpAnyH_take (i := 27) (v := ?v20) ((List.getElem?_toArray ..).trans rfl) (by as_aux_lemma => kernel_rfl) (by as_aux_lemma => kernel_rfl) (by as_aux_lemma => kernel_rfl) (fun _ _ _ h => h) (Or.inl ⟨by rfl, ?hy20⟩) hHeld ?rest20
    case hy20 => (intro w hSw; (try dsimp only at hSw); go_simp; first | done | with_reducible rfl)
    (try simp only [Act.put, List.setIfInBounds_toArray, List.set_cons_zero, List.set_cons_succ])
    refine wpAnyH_take (i := 28) (v := ?v21) ((List.getElem?_toArray ..).trans rfl) (by as_aux_lemma => kernel_rfl) (by as_aux_lemma => kernel_rfl) (by as_aux_lemma => kernel_rfl) (fun _ _ _ h => h) (Or.inl ⟨by rfl, ?hy21⟩) hHeld ?rest21
    case hy21 => (intro w hSw; (try dsimp only at hSw); go_simp; first | done | with_reducible rfl)
    (try simp only [Act.put, List.setIfInBounds_toArray, List.set_cons_zero, List.set_cons_succ])
    refine wpAnyH_take (i := 29) (v := ?v22) ((List.getElem?_toArray ..).trans rfl) (by as_aux_lemma => kernel_rfl) (by as_aux_lemma => kernel_rfl) (by as_aux_lemma => kernel_rfl) (fun _ _ _ h => h) (Or.inl ⟨by rfl, ?hy22⟩) hHeld ?rest22
    case hy22 => (intro w hSw; (try dsimp only at hSw); go_simp; first | done | with_reducible rfl)
    (try simp only [Act.put, List.setIfInBounds_toArray, List.set_cons_zero, List.set_cons_succ])
    refine wpAnyH_take (i := 30) (v := ?v23) ((List.getElem?_toArray ..).trans rfl) (by as_aux_lemma => kernel_rfl) (by as_aux_lemma => kernel_rfl) (by as_aux_lemma => kernel_rfl) (fun _ _ _ h => h) (Or.inl ⟨by rfl, ?hy23⟩) hHeld ?rest23
    case hy23 => (intro w hSw; (try dsimp only at hSw); go_simp; first | done | with_reducible rfl)
    (try simp only [Act.put, List.setIfInBounds_toArray, List.set_cons_zero, List.set_cons_succ])
    refine wpAnyH_take (i := 31) (v := ?v24) ((List.getElem?_toArray ..).trans rfl) (by as_aux_lemma => kernel_rfl) (by as_aux_lemma => kernel_rfl) (by as_aux_lemma => kernel_rfl) (fun _ _ _ h => h) (Or.inl ⟨by rfl, ?hy24⟩) hHeld ?rest24
    case hy24 => (intro w hSw; (try dsimp only at hSw); go_simp; first | done | with_reducible rfl)
    (try simp only [Act.put, List.setIfInBounds_toArray, List.set_cons_zero, List.set_cons_succ])
    refine wpAnyH_take (i := 32) (v := ?v25) ((List.getElem?_toArray ..).trans rfl) (by as_aux_lemma => kernel_rfl) (by as_aux_lemma => kernel_rfl) (by as_aux_lemma => kernel_rfl) (fun _ _ _ h => h) (Or.inl ⟨by rfl, ?hy25⟩) hHeld ?rest25
    case hy25 => (intro w hSw; (try dsimp only at hSw); go_simp; first | done | with_reducible rfl)
    (try simp only [Act.put, List.setIfInBounds_toArray, List.set_cons_zero, List.set_cons_succ])
    refine wpAnyH_take (i := 33) (v := ?v26) ((List.getElem?_toArray ..).trans rfl) (by as_aux_lemma => kernel_rfl) (by as_aux_lemma => kernel_rfl) (by as_aux_lemma => kernel_rfl) (fun _ _ _ h => h) (Or.inl ⟨by rfl, ?hy26⟩) hHeld ?rest26
    case hy26 => (intro w hSw; (try dsimp only at hSw); go_simp; first | done | with_reducible rfl)
    (try simp only [Act.put, List.setIfInBounds_toArray, List.set_cons_zero, List.set_cons_succ])
    refine wpAnyH_take (i := 34) (v := ?v27) ((List.getElem?_toArray ..).trans rfl) (by as_aux_lemma => kernel_rfl) (by as_aux_lemma => kernel_rfl) (by as_aux_lemma => kernel_rfl) (fun _ _ _ h => h) (Or.inl ⟨by rfl, ?hy27⟩) hHeld ?rest27
    case hy27 => (intro w hSw; (try dsimp only at hSw); go_simp; first | done | with_reducible rfl)
    (try simp only [Act.put, List.setIfInBounds_toArray, List.set_cons_zero, List.set_cons_succ])
    refine wpAnyH_take (i := 36) (v := ?v28) ((List.getElem?_toArray ..).trans rfl) (by as_aux_lemma => kernel_rfl) (by as_aux_lemma => kernel_rfl) (by as_aux_lemma => kernel_rfl) (fun _ _ _ h => h) (Or.inl ⟨by rfl, ?hy28⟩) hHeld ?rest28
    case hy28 => (intro w hSw; (try dsimp only at hSw); go_simp; first | done | with_reducible rfl)
    (try simp only [Act.put, List.setIfInBounds_toArray, List.set_cons_zero, List.set_cons_succ])
    refine wpAnyH_take (i := 37) (v := ?v29) ((List.getElem?_toArray ..).trans rfl) (by as_aux_lemma => kernel_rfl) (by as_aux_lemma => kernel_rfl) (by as_aux_lemma => kernel_rfl) (fun _ _ _ h => h) (Or.inl ⟨by rfl, ?hy29⟩) hHeld ?rest29
    case hy29 => (intro w hSw; (try dsimp only at hSw); go_simp; first | done | with_reducible rfl)
    (try simp only [Act.put, List.setIfInBounds_toArray, List.set_cons_zero, List.set_cons_succ])
    refine wpAnyH_take (i := 38) (v := ?v30) ((List.getElem?_toArray ..).trans rfl) (by as_aux_lemma => kernel_rfl) (by as_aux_lemma => kernel_rfl) (by as_aux_lemma => kernel_rfl) (fun _ _ _ h => h) (Or.inl ⟨by rfl, ?hy30⟩) hHeld ?rest30
    case hy30 => (intro w hSw; (try dsimp only at hSw); go_simp; first | done | with_reducible rfl)
    (try simp only [Act.put, List.setIfInBounds_toArray, List.set_cons_zero, List.set_cons_succ])
    refine wpAnyH_take (i := 39) (v := ?v31) ((List.getElem?_toArray ..).trans rfl) (by as_aux_lemma => kernel_rfl) (by as_aux_lemma => kernel_rfl) (by as_aux_lemma => kernel_rfl) (fun _ _ _ h => h) (Or.inl ⟨by rfl, ?hy31⟩) hHeld ?rest31
    case hy31 => (intro w hSw; (try dsimp only at hSw); go_simp; first | done | with_reducible rfl)
    (try simp only [Act.put, List.setIfInBounds_toArray, List.set_cons_zero, List.set_cons_succ])
    refine wpAnyH_take (i := 40) (v := ?v32) ((List.getElem?_toArray ..).trans rfl) (by as_aux_lemma => kernel_rfl) (by as_aux_lemma => kernel_rfl) (by as_aux_lemma => kernel_rfl) (fun _ _ _ h => h) (Or.inl ⟨by rfl, ?hy32⟩) hHeld ?rest32
    case hy32 => (intro w hSw; (try dsimp only at hSw); go_simp; first | done | with_reducible rfl)
    (try simp only [Act.put, List.setIfInBounds_toArray, List.set_cons_zero, List.set_cons_succ])
    refine wpAnyH_ready (rs := [35]) (by as_aux_lemma => kernel_rfl) (by simp) ?_
    refine AllReadyH.cons (o := _) ((List.getElem?_toArray ..).trans rfl) (fun K hK => ?_) AllReadyH.nil
    go_simp
    (first
        | (go_at_call 9; (with_reducible refine (c9 _).mono ?_); rintro e w2 ⟨rfl, hf⟩; have hff : Fr (fun _ => False) V w2 := Fr.trans (And.left (by assumption)) hf)
        | (go_at_call 10; (with_reducible refine (KR.out _).mono ?_); rintro e w3 ⟨rfl, hg⟩; have hf3 : Fr (fun _ => False) _ w3 := Fr.of_grown hg; have hff : Fr (fun _ => False) V w3 := Fr.trans (And.left (by assumption)) hf3; try (replace r0 := hf3.cell r0 id; replace r1 := hf3.cell r1 id; replace r2 := hf3.cell r2 id; replace r3 := hf3.cell r3 id; replace r4 := hf3.cell r4 id; replace r5 := hf3.cell r5 id; replace r6 := hf3.cell r6 id))
        | (go_at_call 12; (first | (with_reducible refine (KF.out _ _ (Fr.refl _ _)).mono ?_) | (with_reducible refine (KF.out _ _ hf3).mono ?_)); rintro e w4 ⟨rg, ro, rc, rfl, hf, r0, r1, r2, r3, r4, r5, r6⟩; have hff : Fr (fun _ => False) V w4 := (by first | exact Fr.trans hff hf | exact Fr.trans (And.left (by assumption)) hf | exact Fr.trans (fr_al hff _) hf | trace_state))
        | (go_at_call 11; (with_reducible refine (KQ.out _).mono ?_); rintro e w5 ⟨rfl, hg⟩; have hff : Fr (fun _ => False) V w5 := Fr.trans (And.left (by assumption)) (Fr.of_grown hg))
        | (go_at_call 13; (with_reducible refine (KC.out _).mono ?_); rintro e w6 ⟨rfl, rfl⟩)
        | (go_at_call 14; (with_reducible refine (KD.out _).mono ?_); rintro e w7 ⟨rfl, rfl⟩)
        | (go_at_call 15; (with_reducible refine (c15 _ _ n0 n1 _).mono ?_); rintro e w8 ⟨rfl, hg⟩; have hff : Fr (fun _ => False) V w8 := Fr.trans (And.left (by assumption)) (Fr.of_grown hg))
        | (go_at_call 16; (with_reducible refine (c16 _ _).mono ?_); rintro e w9 ⟨rfl, hg⟩; have hff : Fr (fun _ => False) V w9 := Fr.trans (And.left (by assumption)) (Fr.of_grown hg))
        | (go_at_call 17; (with_reducible refine (c17 _ _ _ _ _).mono ?_); rintro e w10 ⟨rfl, hg⟩; have hff : Fr (fun _ => False) V w10 := Fr.trans (And.left (by assumption)) (Fr.of_grown hg))
        | (go_at_call 18; (with_reducible refine (c18 _ _ _).mono ?_); rintro e w11 ⟨rfl, hg⟩; have hff : Fr (fun _ => False) V w11 := Fr.trans (And.left (by assumption)) (Fr.of_grown hg)))
    (try dsimp only)
    refine hK.out _ _ ?_ (fun hHeld2 => ?_)
    · (try dsimp only); (first | assumption | exact HKW.out _ (Fr.refl _ _) | exact HKW.out _ ((Fr.refl _ _).drewN 1) | exact HKW.out _ (by assumption) | exact HKW.out _ (fr_al (And.left (by assumption)) _))
    clear hK K hHeld
    have hHeld := hHeld2
    clear hHeld2
    (try simp only [Act.put, List.setIfInBounds_toArray, List.set_cons_zero, List.set_cons_succ])
    refine wpAnyH_take (i := 41) (v := ?v33) ((List.getElem?_toArray ..).trans rfl) (by as_aux_lemma => kernel_rfl) (by as_aux_lemma => kernel_rfl) (by as_aux_lemma => kernel_rfl) (fun _ _ _ h => h) (Or.inl ⟨by rfl, ?hy33⟩) hHeld ?rest33
    case hy33 => (intro w hSw; (try dsimp only at hSw); go_simp; first | done | with_reducible rfl)
    (try simp only [Act.put, List.setIfInBounds_toArray, List.set_cons_zero, List.set_cons_succ])
    refine wpAnyH_take (i := 42) (v := ?v34) ((List.getElem?_toArray ..).trans rfl) (by as_aux_lemma => kernel_rfl) (by as_aux_lemma => kernel_rfl) (by as_aux_lemma => kernel_rfl) (fun _ _ _ h => h) (Or.inl ⟨by rfl, ?hy34⟩) hHeld ?rest34
    case hy34 => (intro w hSw; (try dsimp only at hSw); go_simp; first | done | with_reducible rfl)
    (try simp only [Act.put, List.setIfInBounds_toArray, List.set_cons_zero, List.set_cons_succ])
    refine wpAnyH_take (i := 43) (v := ?v35) ((List.getElem?_toArray ..).trans rfl) (by as_aux_lemma => kernel_rfl) (by as_aux_lemma => kernel_rfl) (by as_aux_lemma => kernel_rfl) (fun _ _ _ h => h) (Or.inl ⟨by rfl, ?hy35⟩) hHeld ?rest35
    case hy35 => (intro w hSw; (try dsimp only at hSw); go_simp; first | done | with_reducible rfl)
    (try simp only [Act.put, List.setIfInBounds_toArray, List.set_cons_zero, List.set_cons_succ])
    refine wpAnyH_take (i := 44) (v := ?v36) ((List.getElem?_toArray ..).trans rfl) (by as_aux_lemma => kernel_rfl) (by as_aux_lemma => kernel_rfl) (by as_aux_lemma => kernel_rfl) (fun _ _ _ h => h) (Or.inl ⟨by rfl, ?hy36⟩) hHeld ?rest36
    case hy36 => (intro w hSw; (try dsimp only at hSw); go_simp; first | done | with_reducible rfl)
    (try simp only [Act.put, List.setIfInBounds_toArray, List.set_cons_zero, List.set_cons_succ])
    refine wpAnyH_take (i := 46) (v := ?v37) ((List.getElem?_toArray ..).trans rfl) (by as_aux_lemma => kernel_rfl) (by as_aux_lemma => kernel_rfl) (by as_aux_lemma => kernel_rfl) (fun _ _ _ h => h) (Or.inl ⟨by rfl, ?hy37⟩) hHeld ?rest37
    case hy37 => (intro w hSw; (try dsimp only at hSw); go_simp; first | done | with_reducible rfl)
    (try simp only [Act.put, List.setIfInBounds_toArray, List.set_cons_zero, List.set_cons_succ])
    refine wpAnyH_take (i := 47) (v := ?v38) ((List.getElem?_toArray ..).trans rfl) (by as_aux_lemma => kernel_rfl) (by as_aux_lemma => kernel_rfl) (by as_aux_lemma => kernel_rfl) (fun _ _ _ h => h) (Or.inl ⟨by rfl, ?hy38⟩) hHeld ?rest38
    case hy38 => (intro w hSw; (try dsimp only at hSw); go_simp; first | done | with_reducible rfl)
    (try simp only [Act.put, List.setIfInBounds_toArray, List.set_cons_zero, List.set_cons_succ])
    refine wpAnyH_ready (rs := [45]) (by as_aux_lemma => kernel_rfl) (by simp) ?_
    refine AllReadyH.cons (o := _) ((List.getElem?_toArray ..).trans rfl) (fun K hK => ?_) AllReadyH.nil
    go_simp
    (first
        | (go_at_call 9; (with_reducible refine (c9 _).mono ?_); rintro e w2 ⟨rfl, hf⟩; have hff : Fr (fun _ => False) V w2 := Fr.trans (And.left (by assumption)) hf)
        | (go_at_call 10; (with_reducible refine (KR.out _).mono ?_); rintro e w3 ⟨rfl, hg⟩; have hf3 : Fr (fun _ => False) _ w3 := Fr.of_grown hg; have hff : Fr (fun _ => False) V w3 := Fr.trans (And.left (by assumption)) hf3; try (replace r0 := hf3.cell r0 id; replace r1 := hf3.cell r1 id; replace r2 := hf3.cell r2 id; replace r3 := hf3.cell r3 id; replace r4 := hf3.cell r4 id; replace r5 := hf3.cell r5 id; replace r6 := hf3.cell r6 id))
        | (go_at_call 12; (first | (with_reducible refine (KF.out _ _ (Fr.refl _ _)).mono ?_) | (with_reducible refine (KF.out _ _ hf3).mono ?_)); rintro e w4 ⟨rg, ro, rc, rfl, hf, r0, r1, r2, r3, r4, r5, r6⟩; have hff : Fr (fun _ => False) V w4 := (by first | exact Fr.trans hff hf | exact Fr.trans (And.left (by assumption)) hf | exact Fr.trans (fr_al hff _) hf | trace_state))
        | (go_at_call 11; (with_reducible refine (KQ.out _).mono ?_); rintro e w5 ⟨rfl, hg⟩; have hff : Fr (fun _ => False) V w5 := Fr.trans (And.left (by assumption)) (Fr.of_grown hg))
        | (go_at_call 13; (with_reducible refine (KC.out _).mono ?_); rintro e w6 ⟨rfl, rfl⟩)
        | (go_at_call 14; (with_reducible refine (KD.out _).mono ?_); rintro e w7 ⟨rfl, rfl⟩)
        | (go_at_call 15; (with_reducible refine (c15 _ _ n0 n1 _).mono ?_); rintro e w8 ⟨rfl, hg⟩; have hff : Fr (fun _ => False) V w8 := Fr.trans (And.left (by assumption)) (Fr.of_grown hg))
        | (go_at_call 16; (with_reducible refine (c16 _ _).mono ?_); rintro e w9 ⟨rfl, hg⟩; have hff : Fr (fun _ => False) V w9 := Fr.trans (And.left (by assumption)) (Fr.of_grown hg))
        | (go_at_call 17; (with_reducible refine (c17 _ _ _ _ _).mono ?_); rintro e w10 ⟨rfl, hg⟩; have hff : Fr (fun _ => False) V w10 := Fr.trans (And.left (by assumption)) (Fr.of_grown hg))
        | (go_at_call 18; (with_reducible refine (c18 _ _ _).mono ?_); rintro e w11 ⟨rfl, hg⟩; have hff : Fr (fun _ => False) V w11 := Fr.trans (And.left (by assumption)) (Fr.of_grown hg)))
    (try dsimp only)
    refine hK.out _ _ ?_ (fun hHeld2 => ?_)
    · (try dsimp only); (first | assumption | exact HKW.out _ (Fr.refl _ _) | exact HKW.out _ ((Fr.refl _ _).drewN 1) | exact HKW.out _ (by assumption) | exact HKW.out _ (fr_al (And.left (by assumption)) _))
    clear hK K hHeld
    have hHeld := hHeld2
    clear hHeld2
    (try simp only [Act.put, List.setIfInBounds_toArray, List.set_cons_zero, List.set_cons_succ])
    refine wpAnyH_take (i := 48) (v := ?v39) ((List.getElem?_toArray ..).trans rfl) (by as_aux_lemma => kernel_rfl) (by as_aux_lemma => kernel_rfl) (by as_aux_lemma => kernel_rfl) (fun _ _ _ h => h) (Or.inl ⟨by rfl, ?hy39⟩) hHeld ?rest39
    case hy39 => (intro w hSw; (try dsimp only at hSw); go_simp; first | done | with_reducible rfl)
    (try simp only [Act.put, List.setIfInBounds_toArray, List.set_cons_zero, List.set_cons_succ])
    refine wpAnyH_take (i := 49) (v := ?v40) ((List.getElem?_toArray ..).trans rfl) (by as_aux_lemma => kernel_rfl) (by as_aux_lemma => kernel_rfl) (by as_aux_lemma => kernel_rfl) (fun _ _ _ h => h) (Or.inl ⟨by rfl, ?hy40⟩) hHeld ?rest40
    case hy40 => (intro w hSw; (try dsimp only at hSw); go_simp; first | done | with_reducible rfl)
    (try simp only [Act.put, List.setIfInBounds_toArray, List.set_cons_zero, List.set_cons_succ])
    refine wpAnyH_take (i := 50) (v := ?v41) ((List.getElem?_toArray ..).trans rfl) (by as_aux_lemma => kernel_rfl) (by as_aux_lemma => kernel_rfl) (by as_aux_lemma => kernel_rfl) (fun _ _ _ h => h) (Or.inl ⟨by rfl, ?hy41⟩) hHeld ?rest41
    case hy41 => (intro w hSw; (try dsimp only at hSw); go_simp; first | done | with_reducible rfl)
    (try simp only [Act.put, List.setIfInBounds_toArray, List.set_cons_zero, List.set_cons_succ])
    refine wpAnyH_take (i := 51) (v := ?v42) ((List.getElem?_toArray ..).trans rfl) (by as_aux_lemma => kernel_rfl) (by as_aux_lemma => kernel_rfl) (by as_aux_lemma => kernel_rfl) (fun _ _ _ h => h) (Or.inl ⟨by rfl, ?hy42⟩) hHeld ?rest42
    case hy42 => (intro w hSw; (try dsimp only at hSw); go_simp; first | done | with_reducible rfl)
    (try simp only [Act.put, List.setIfInBounds_toArray, List.set_cons_zero, List.set_cons_succ])
    refine wpAnyH_take (i := 52) (v := ?v43) ((List.getElem?_toArray ..).trans rfl) (by as_aux_lemma => kernel_rfl) (by as_aux_lemma => kernel_rfl) (by as_aux_lemma => kernel_rfl) (fun _ _ _ h => h) (Or.inl ⟨by rfl, ?hy43⟩) hHeld ?rest43
    case hy43 => (intro w hSw; (try dsimp only at hSw); go_simp; first | done | with_reducible rfl)
    (try simp only [Act.put, List.setIfInBounds_toArray, List.set_cons_zero, List.set_cons_succ])
    refine wpAnyH_take (i := 53) (v := ?v44) ((List.getElem?_toArray ..).trans rfl) (by as_aux_lemma => kernel_rfl) (by as_aux_lemma => kernel_rfl) (by as_aux_lemma => kernel_rfl) (fun _ _ _ h => h) (Or.inl ⟨by rfl, ?hy44⟩) hHeld ?rest44
    case hy44 => (intro w hSw; (try dsimp only at hSw); go_simp; first | done | with_reducible rfl)
    (try simp only [Act.put, List.setIfInBounds_toArray, List.set_cons_zero, List.set_cons_succ])
    refine wpAnyH_take (i := 54) (v := ?v45) ((List.getElem?_toArray ..).trans rfl) (by as_aux_lemma => kernel_rfl) (by as_aux_lemma => kernel_rfl) (by as_aux_lemma => kernel_rfl) (fun _ _ _ h => h) (Or.inl ⟨by rfl, ?hy45⟩) hHeld ?rest45
    case hy45 => (intro w hSw; (try dsimp only at hSw); go_simp; first | done | with_reducible rfl)
    (try simp only [Act.put, List.setIfInBounds_toArray, List.set_cons_zero, List.set_cons_succ])
    refine wpAnyH_take (i := 56) (v := ?v46) ((List.getElem?_toArray ..).trans rfl) (by as_aux_lemma => kernel_rfl) (by as_aux_lemma => kernel_rfl) (by as_aux_lemma => kernel_rfl) (fun _ _ _ h => h) (Or.inl ⟨by rfl, ?hy46⟩) hHeld ?rest46
    case hy46 => (intro w hSw; (try dsimp only at hSw); go_simp; first | done | with_reducible rfl)
    (try simp only [Act.put, List.setIfInBounds_toArray, List.set_cons_zero, List.set_cons_succ])
    refine wpAnyH_take (i := 57) (v := ?v47) ((List.getElem?_toArray ..).trans rfl) (by as_aux_lemma => kernel_rfl) (by as_aux_lemma => kernel_rfl) (by as_aux_lemma => kernel_rfl) (fun _ _ _ h => h) (Or.inl ⟨by rfl, ?hy47⟩) hHeld ?rest47
    case hy47 => (intro w hSw; (try dsimp only at hSw); go_simp; first | done | with_reducible rfl)
    (try simp only [Act.put, List.setIfInBounds_toArray, List.set_cons_zero, List.set_cons_succ])
    refine wpAnyH_take (i := 58) (v := ?v48) ((List.getElem?_toArray ..).trans rfl) (by as_aux_lemma => kernel_rfl) (by as_aux_lemma => kernel_rfl) (by as_aux_lemma => kernel_rfl) (fun _ _ _ h => h) (Or.inl ⟨by rfl, ?hy48⟩) hHeld ?rest48
    case hy48 => (intro w hSw; (try dsimp only at hSw); go_simp; first | done | with_reducible rfl)
    (try simp only [Act.put, List.setIfInBounds_toArray, List.set_cons_zero, List.set_cons_succ])
    refine wpAnyH_take (i := 59) (v := ?v49) ((List.getElem?_toArray ..).trans rfl) (by as_aux_lemma => kernel_rfl) (by as_aux_lemma => kernel_rfl) (by as_aux_lemma => kernel_rfl) (fun _ _ _ h => h) (Or.inl ⟨by rfl, ?hy49⟩) hHeld ?rest49
    case hy49 => (intro w hSw; (try dsimp only at hSw); go_simp; first | done | with_reducible rfl)
    (try simp only [Act.put, List.setIfInBounds_toArray, List.set_cons_zero, List.set_cons_succ])
    refine wpAnyH_take (i := 60) (v := ?v50) ((List.getElem?_toArray ..).trans rfl) (by as_aux_lemma => kernel_rfl) (by as_aux_lemma => kernel_rfl) (by as_aux_lemma => kernel_rfl) (fun _ _ _ h => h) (Or.inl ⟨by rfl, ?hy50⟩) hHeld ?rest50
    case hy50 => (intro w hSw; (try dsimp only at hSw); go_simp; first | done | with_reducible rfl)
    (try simp only [Act.put, List.setIfInBounds_toArray, List.set_cons_zero, List.set_cons_succ])
    refine wpAnyH_take (i := 61) (v := ?v51) ((List.getElem?_toArray ..).trans rfl) (by as_aux_lemma => kernel_rfl) (by as_aux_lemma => kernel_rfl) (by as_aux_lemma => kernel_rfl) (fun _ _ _ h => h) (Or.inl ⟨by rfl, ?hy51⟩) hHeld ?rest51
    case hy51 => (intro w hSw; (try dsimp only at hSw); go_simp; first | done | with_reducible rfl)
    (try simp only [Act.put, List.setIfInBounds_toArray, List.set_cons_zero, List.set_cons_succ])
    refine wpAnyH_ready (rs := [55]) (by as_aux_lemma => kernel_rfl) (by simp) ?_
    refine AllReadyH.cons (o := _) ((List.getElem?_toArray ..).trans rfl) (fun K hK => ?_) AllReadyH.nil
    go_simp
    (first
        | (go_at_call 9; (with_reducible refine (c9 _).mono ?_); rintro e w2 ⟨rfl, hf⟩; have hff : Fr (fun _ => False) V w2 := Fr.trans (And.left (by assumption)) hf)
        | (go_at_call 10; (with_reducible refine (KR.out _).mono ?_); rintro e w3 ⟨rfl, hg⟩; have hf3 : Fr (fun _ => False) _ w3 := Fr.of_grown hg; have hff : Fr (fun _ => False) V w3 := Fr.trans (And.left (by assumption)) hf3; try (replace r0 := hf3.cell r0 id; replace r1 := hf3.cell r1 id; replace r2 := hf3.cell r2 id; replace r3 := hf3.cell r3 id; replace r4 := hf3.cell r4 id; replace r5 := hf3.cell r5 id; replace r6 := hf3.cell r6 id))
        | (go_at_call 12; (first | (with_reducible refine (KF.out _ _ (Fr.refl _ _)).mono ?_) | (with_reducible refine (KF.out _ _ hf3).mono ?_)); rintro e w4 ⟨rg, ro, rc, rfl, hf, r0, r1, r2, r3, r4, r5, r6⟩; have hff : Fr (fun _ => False) V w4 := (by first | exact Fr.trans hff hf | exact Fr.trans (And.left (by assumption)) hf | exact Fr.trans (fr_al hff _) hf | trace_state))
        | (go_at_call 11; (with_reducible refine (KQ.out _).mono ?_); rintro e w5 ⟨rfl, hg⟩; have hff : Fr (fun _ => False) V w5 := Fr.trans (And.left (by assumption)) (Fr.of_grown hg))
        | (go_at_call 13; (with_reducible refine (KC.out _).mono ?_); rintro e w6 ⟨rfl, rfl⟩)
        | (go_at_call 14; (with_reducible refine (KD.out _).mono ?_); rintro e w7 ⟨rfl, rfl⟩)
        | (go_at_call 15; (with_reducible refine (c15 _ _ n0 n1 _).mono ?_); rintro e w8 ⟨rfl, hg⟩; have hff : Fr (fun _ => False) V w8 := Fr.trans (And.left (by assumption)) (Fr.of_grown hg))
        | (go_at_call 16; (with_reducible refine (c16 _ _).mono ?_); rintro e w9 ⟨rfl, hg⟩; have hff : Fr (fun _ => False) V w9 := Fr.trans (And.left (by assumption)) (Fr.of_grown hg))
        | (go_at_call 17; (with_reducible refine (c17 _ _ _ _ _).mono ?_); rintro e w10 ⟨rfl, hg⟩; have hff : Fr (fun _ => False) V w10 := Fr.trans (And.left (by assumption)) (Fr.of_grown hg))
        | (go_at_call 18; (with_reducible refine (c18 _ _ _).mono ?_); rintro e w11 ⟨rfl, hg⟩; have hff : Fr (fun _ => False) V w11 := Fr.trans (And.left (by assumption)) (Fr.of_grown hg)))
    (try dsimp only)
    refine hK.out _ _ ?_ (fun hHeld2 => ?_)
    · (try dsimp only); (first | assumption | exact HKW.out _ (Fr.refl _ _) | exact HKW.out _ ((Fr.refl _ _).drewN 1) | exact HKW.out _ (by assumption) | exact HKW.out _ (fr_al (And.left (by assumption)) _))
    clear hK K hHeld
    have hHeld := hHeld2
    clear hHeld2
    (try simp only [Act.put, List.setIfInBounds_toArray, List.set_cons_zero, List.set_cons_succ])
    refine wpAnyH_take (i := 62) (v := ?v52) ((List.getElem?_toArray ..).trans rfl) (by as_aux_lemma => kernel_rfl) (by as_aux_lemma => kernel_rfl) (by as_aux_lemma => kernel_rfl) (fun _ _ _ h => h) (Or.inl ⟨by rfl, ?hy52⟩) hHeld ?rest52
    case hy52 => (intro w hSw; (try dsimp only at hSw); go_simp; first | done | with_reducible rfl)
    (try simp only [Act.put, List.setIfInBounds_toArray, List.set_cons_zero, List.set_cons_succ])
    refine wpAnyH_take (i := 63) (v := ?v53) ((List.getElem?_toArray ..).trans rfl) (by as_aux_lemma => kernel_rfl) (by as_aux_lemma => kernel_rfl) (by as_aux_lemma => kernel_rfl) (fun _ _ _ h => h) (Or.inl ⟨by rfl, ?hy53⟩) hHeld ?rest53
    case hy53 => (intro w hSw; (try dsimp only at hSw); go_simp; first | done | with_reducible rfl)
    (try simp only [Act.put, List.setIfInBounds_toArray, List.set_cons_zero, List.set_cons_succ])
    refine wpAnyH_take (i := 64) (v := ?v54) ((List.getElem?_toArray ..).trans rfl) (by as_aux_lemma => kernel_rfl) (by as_aux_lemma => kernel_rfl) (by as_aux_lemma => kernel_rfl) (fun _ _ _ h => h) (Or.inl ⟨by rfl, ?hy54⟩) hHeld ?rest54
    case hy54 => (intro w hSw; (try dsimp only at hSw); go_simp; first | done | with_reducible rfl)
    (try simp only [Act.put, List.setIfInBounds_toArray, List.set_cons_zero, List.set_cons_succ])
    refine wpAnyH_take (i := 65) (v := ?v55) ((List.getElem?_toArray ..).trans rfl) (by as_aux_lemma => kernel_rfl) (by as_aux_lemma => kernel_rfl) (by as_aux_lemma => kernel_rfl) (fun _ _ _ h => h) (Or.inl ⟨by rfl, ?hy55⟩) hHeld ?rest55
    case hy55 => (intro w hSw; (try dsimp only at hSw); go_simp; first | done | with_reducible rfl)
    (try simp only [Act.put, List.setIfInBounds_toArray, List.set_cons_zero, List.set_cons_succ])
    refine wpAnyH_take (i := 66) (v := ?v56) ((List.getElem?_toArray ..).trans rfl) (by as_aux_lemma => kernel_rfl) (by as_aux_lemma => kernel_rfl) (by as_aux_lemma => kernel_rfl) (fun _ _ _ h => h) (Or.inl ⟨by rfl, ?hy56⟩) hHeld ?rest56
    case hy56 => (intro w hSw; (try dsimp only at hSw); go_simp; first | done | with_reducible rfl)
    (try simp only [Act.put, List.setIfInBounds_toArray, List.set_cons_zero, List.set_cons_succ])
    refine wpAnyH_take (i := 68) (v := ?v57) ((List.getElem?_toArray ..).trans rfl) (by as_aux_lemma => kernel_rfl) (by as_aux_lemma => kernel_rfl) (by as_aux_lemma => kernel_rfl) (fun _ _ _ h => h) (Or.inl ⟨by rfl, ?hy57⟩) hHeld ?rest57
    case hy57 => (intro w hSw; (try dsimp only at hSw); go_simp; first | done | with_reducible rfl)
    (try simp only [Act.put, List.setIfInBounds_toArray, List.set_cons_zero, List.set_cons_succ])
    refine wpAnyH_take (i := 69) (v := ?v58) ((List.getElem?_toArray ..).trans rfl) (by as_aux_lemma => kernel_rfl) (by as_aux_lemma => kernel_rfl) (by as_aux_lemma => kernel_rfl) (fun _ _ _ h => h) (Or.inl ⟨by rfl, ?hy58⟩) hHeld ?rest58
    case hy58 => (intro w hSw; (try dsimp only at hSw); go_simp; first | done | with_reducible rfl)
    (try simp only [Act.put, List.setIfInBounds_toArray, List.set_cons_zero, List.set_cons_succ])
    refine wpAnyH_take (i := 70) (v := ?v59) ((List.getElem?_toArray ..).trans rfl) (by as_aux_lemma => kernel_rfl) (by as_aux_lemma => kernel_rfl) (by as_aux_lemma => kernel_rfl) (fun _ _ _ h => h) (Or.inl ⟨by rfl, ?hy59⟩) hHeld ?rest59
    case hy59 => (intro w hSw; (try dsimp only at hSw); go_simp; first | done | with_reducible rfl)
    (try simp only [Act.put, List.setIfInBounds_toArray, List.set_cons_zero, List.set_cons_succ])
    refine wpAnyH_take (i := 71) (v := ?v60) ((List.getElem?_toArray ..).trans rfl) (by as_aux_lemma => kernel_rfl) (by as_aux_lemma => kernel_rfl) (by as_aux_lemma => kernel_rfl) (fun _ _ _ h => h) (Or.inl ⟨by rfl, ?hy60⟩) hHeld ?rest60
    case hy60 => (intro w hSw; (try dsimp only at hSw); go_simp; first | done | with_reducible rfl)
    (try simp only [Act.put, List.setIfInBounds_toArray, List.set_cons_zero, List.set_cons_succ])
    refine wpAnyH_ready (rs := [67]) (by as_aux_lemma => kernel_rfl) (by simp) ?_
    refine AllReadyH.cons (o := _) ((List.getElem?_toArray ..).trans rfl) (fun K hK => ?_) AllReadyH.nil
    go_simp
    (first
        | (go_at_call 9; (with_reducible refine (c9 _).mono ?_); rintro e w2 ⟨rfl, hf⟩; have hff : Fr (fun _ => False) V w2 := Fr.trans (And.left (by assumption)) hf)
        | (go_at_call 10; (with_reducible refine (KR.out _).mono ?_); rintro e w3 ⟨rfl, hg⟩; have hf3 : Fr (fun _ => False) _ w3 := Fr.of_grown hg; have hff : Fr (fun _ => False) V w3 := Fr.trans (And.left (by assumption)) hf3; try (replace r0 := hf3.cell r0 id; replace r1 := hf3.cell r1 id; replace r2 := hf3.cell r2 id; replace r3 := hf3.cell r3 id; replace r4 := hf3.cell r4 id; replace r5 := hf3.cell r5 id; replace r6 := hf3.cell r6 id))
        | (go_at_call 12; (first | (with_reducible refine (KF.out _ _ (Fr.refl _ _)).mono ?_) | (with_reducible refine (KF.out _ _ hf3).mono ?_)); rintro e w4 ⟨rg, ro, rc, rfl, hf, r0, r1, r2, r3, r4, r5, r6⟩; have hff : Fr (fun _ => False) V w4 := (by first | exact Fr.trans hff hf | exact Fr.trans (And.left (by assumption)) hf | exact Fr.trans (fr_al hff _) hf | trace_state))
        | (go_at_call 11; (with_reducible refine (KQ.out _).mono ?_); rintro e w5 ⟨rfl, hg⟩; have hff : Fr (fun _ => False) V w5 := Fr.trans (And.left (by assumption)) (Fr.of_grown hg))
        | (go_at_call 13; (with_reducible refine (KC.out _).mono ?_); rintro e w6 ⟨rfl, rfl⟩)
        | (go_at_call 14; (with_reducible refine (KD.out _).mono ?_); rintro e w7 ⟨rfl, rfl⟩)
        | (go_at_call 15; (with_reducible refine (c15 _ _ n0 n1 _).mono ?_); rintro e w8 ⟨rfl, hg⟩; have hff : Fr (fun _ => False) V w8 := Fr.trans (And.left (by assumption)) (Fr.of_grown hg))
        | (go_at_call 16; (with_reducible refine (c16 _ _).mono ?_); rintro e w9 ⟨rfl, hg⟩; have hff : Fr (fun _ => False) V w9 := Fr.trans (And.left (by assumption)) (Fr.of_grown hg))
        | (go_at_call 17; (with_reducible refine (c17 _ _ _ _ _).mono ?_); rintro e w10 ⟨rfl, hg⟩; have hff : Fr (fun _ => False) V w10 := Fr.trans (And.left (by assumption)) (Fr.of_grown hg))
        | (go_at_call 18; (with_reducible refine (c18 _ _ _).mono ?_); rintro e w11 ⟨rfl, hg⟩; have hff : Fr (fun _ => False) V w11 := Fr.trans (And.left (by assumption)) (Fr.of_grown hg)))
    (try dsimp only)
    refine hK.out _ _ ?_ (fun hHeld2 => ?_)
    · (try dsimp only); (first | assumption | exact HKW.out _ (Fr.refl _ _) | exact HKW.out _ ((Fr.refl _ _).drewN 1) | exact HKW.out _ (by assumption) | exact HKW.out _ (fr_al (And.left (by assumption)) _))
    clear hK K hHeld
    have hHeld := hHeld2
    clear hHeld2
    (try simp only [Act.put, List.setIfInBounds_toArray, List.set_cons_zero, List.set_cons_succ])
    refine wpAnyH_take (i := 72) (v := ?v61) ((List.getElem?_toArray ..).trans rfl) (by as_aux_lemma => kernel_rfl) (by as_aux_lemma => kernel_rfl) (by as_aux_lemma => kernel_rfl) (fun _ _ _ h => h) (Or.inl ⟨by rfl, ?hy61⟩) hHeld ?rest61
    case hy61 => (intro w hSw; (try dsimp only at hSw); go_simp; first | done | with_reducible rfl)
    (try simp only [Act.put, List.setIfInBounds_toArray, List.set_cons_zero, List.set_cons_succ])
    refine wpAnyH_take (i := 73) (v := ?v62) ((List.getElem?_toArray ..).trans rfl) (by as_aux_lemma => kernel_rfl) (by as_aux_lemma => kernel_rfl) (by as_aux_lemma => kernel_rfl) (fun _ _ _ h => h) (Or.inl ⟨by rfl, ?hy62⟩) hHeld ?rest62
    case hy62 => (intro w hSw; (try dsimp only at hSw); go_simp; first | done | with_reducible rfl)
    (try simp only [Act.put, List.setIfInBounds_toArray, List.set_cons_zero, List.set_cons_succ])
    refine wpAnyH_take (i := 74) (v := ?v63) ((List.getElem?_toArray ..).trans rfl) (by as_aux_lemma => kernel_rfl) (by as_aux_lemma => kernel_rfl) (by as_aux_lemma => kernel_rfl) (fun _ _ _ h => h) (Or.inl ⟨by rfl, ?hy63⟩) hHeld ?rest63
    case hy63 => (intro w hSw; (try dsimp only at hSw); go_simp; first | done | with_reducible rfl)
    (try simp only [Act.put, List.setIfInBounds_toArray, List.set_cons_zero, List.set_cons_succ])
    refine wpAnyH_done (by as_aux_lemma => kernel_rfl) ?_ _
    refine NoPanic.normal ?_
    go_wp2
    go_ret
    exact ⟨rfl, F0.out.trans (FV.out.trans (And.left (by assumption)))⟩
  · skip
    go_simp
    refine hK.out _ _ ?_ (fun hHeld2 => ?_)
    · (try dsimp only); (first | assumption | exact HKW.out _ (Fr.refl _ _) | exact HKW.out _ ((Fr.refl _ _).drewN 1) | exact HKW.out _ (by assumption) | exact HKW.out _ (fr_al (And.left (by assumption)) _))
    clear hK K hHeld
    have hHeld := hHeld2
    clear hHeld2
    (try simp only [Act.put, List.setIfInBounds_toArray, List.set_cons_zero, List.set_cons_succ])
    refine wpAnyH_ready (rs := [3]) (by as_aux_lemma => kernel_rfl) (by simp) ?_
    refine AllReadyH.cons (o := _) ((List.getElem?_toArray ..).trans rfl) (fun K hK => ?_) AllReadyH.nil
    go_simp
    (first
        | (go_at_call 9; (with_reducible refine (c9 _).mono ?_); rintro e w2 ⟨rfl, hf⟩; have hff : Fr (fun _ => False) V w2 := Fr.trans (And.left (by assumption)) hf)
        | (go_at_call 10; (with_reducible refine (KR.out _).mono ?_); rintro e w3 ⟨rfl, hg⟩; have hf3 : Fr (fun _ => False) _ w3 := Fr.of_grown hg; have hff : Fr (fun _ => False) V w3 := Fr.trans (And.left (by assumption)) hf3; try (replace r0 := hf3.cell r0 id; replace r1 := hf3.cell r1 id; replace r2 := hf3.cell r2 id; replace r3 := hf3.cell r3 id; replace r4 := hf3.cell r4 id; replace r5 := hf3.cell r5 id; replace r6 := hf3.cell r6 id))
        | (go_at_call 12; (first | (with_reducible refine (KF.out _ _ (Fr.refl _ _)).mono ?_) | (with_reducible refine (KF.out _ _ hf3).mono ?_)); rintro e w4 ⟨rg, ro, rc, rfl, hf, r0, r1, r2, r3, r4, r5, r6⟩; have hff : Fr (fun _ => False) V w4 := (by first | exact Fr.trans hff hf | exact Fr.trans (And.left (by assumption)) hf | exact Fr.trans (fr_al hff _) hf | trace_state))
        | (go_at_call 11; (with_reducible refine (KQ.out _).mono ?_); rintro e w5 ⟨rfl, hg⟩; have hff : Fr (fun _ => False) V w5 := Fr.trans (And.left (by assumption)) (Fr.of_grown hg))
        | (go_at_call 13; (with_reducible refine (KC.out _).mono ?_); rintro e w6 ⟨rfl, rfl⟩)
        | (go_at_call 14; (with_reducible refine (KD.out _).mono ?_); rintro e w7 ⟨rfl, rfl⟩)
        | (go_at_call 15; (with_reducible refine (c15 _ _ n0 n1 _).mono ?_); rintro e w8 ⟨rfl, hg⟩; have hff : Fr (fun _ => False) V w8 := Fr.trans (And.left (by assumption)) (Fr.of_grown hg))
        | (go_at_call 16; (with_reducible refine (c16 _ _).mono ?_); rintro e w9 ⟨rfl, hg⟩; have hff : Fr (fun _ => False) V w9 := Fr.trans (And.left (by assumption)) (Fr.of_grown hg))
        | (go_at_call 17; (with_reducible refine (c17 _ _ _ _ _).mono ?_); rintro e w10 ⟨rfl, hg⟩; have hff : Fr (fun _ => False) V w10 := Fr.trans (And.left (by assumption)) (Fr.of_grown hg))
        | (go_at_call 18; (with_reducible refine (c18 _ _ _).mono ?_); rintro e w11 ⟨rfl, hg⟩; have hff : Fr (fun _ => False) V w11 := Fr.trans (And.left (by assumption)) (Fr.of_grown hg)))
    (try dsimp only)
    refine hK.out _ _ ?_ (fun hHeld2 => ?_)
    · (try dsimp only); (first | assumption | exact HKW.out _ (Fr.refl _ _) | exact HKW.out _ ((Fr.refl _ _).drewN 1) | exact HKW.out _ (by assumption) | exact HKW.out _ (fr_al (And.left (by assumption)) _))
    clear hK K hHeld
    have hHeld := hHeld2
    clear hHeld2
    (try simp only [Act.put, List.setIfInBounds_toArray, List.set_cons_zero, List.set_cons_succ])
    refine wpAnyH_ready (rs := [6]) (by as_aux_lemma => kernel_rfl) (by simp) ?_
    refine AllReadyH.cons (o := _) ((List.getElem?_toArray ..).trans rfl) (fun K hK => ?_) AllReadyH.nil
    go_simp
    (first
        | (go_at_call 9; (with_reducible refine (c9 _).mono ?_); rintro e w2 ⟨rfl, hf⟩; have hff : Fr (fun _ => False) V w2 := Fr.trans (And.left (by assumption)) hf)
        | (go_at_call 10; (with_reducible refine (KR.out _).mono ?_); rintro e w3 ⟨rfl, hg⟩; have hf3 : Fr (fun _ => False) _ w3 := Fr.of_grown hg; have hff : Fr (fun _ => False) V w3 := Fr.trans (And.left (by assumption)) hf3; try (replace r0 := hf3.cell r0 id; replace r1 := hf3.cell r1 id; replace r2 := hf3.cell r2 id; replace r3 := hf3.cell r3 id; replace r4 := hf3.cell r4 id; replace r5 := hf3.cell r5 id; replace r6 := hf3.cell r6 id))
        | (go_at_call 12; (first | (with_reducible refine (KF.out _ _ (Fr.refl _ _)).mono ?_) | (with_reducible refine (KF.out _ _ hf3).mono ?_)); rintro e w4 ⟨rg, ro, rc, rfl, hf, r0, r1, r2, r3, r4, r5, r6⟩; have hff : Fr (fun _ => False) V w4 := (by first | exact Fr.trans hff hf | exact Fr.trans (And.left (by assumption)) hf | exact Fr.trans (fr_al hff _) hf | trace_state))
        | (go_at_call 11; (with_reducible refine (KQ.out _).mono ?_); rintro e w5 ⟨rfl, hg⟩; have hff : Fr (fun _ => False) V w5 := Fr.trans (And.left (by assumption)) (Fr.of_grown hg))
        | (go_at_call 13; (with_reducible refine (KC.out _).mono ?_); rintro e w6 ⟨rfl, rfl⟩)
        | (go_at_call 14; (with_reducible refine (KD.out _).mono ?_); rintro e w7 ⟨rfl, rfl⟩)
        | (go_at_call 15; (with_reducible refine (c15 _ _ n0 n1 _).mono ?_); rintro e w8 ⟨rfl, hg⟩; have hff : Fr (fun _ => False) V w8 := Fr.trans (And.left (by assumption)) (Fr.of_grown hg))
        | (go_at_call 16; (with_reducible refine (c16 _ _).mono ?_); rintro e w9 ⟨rfl, hg⟩; have hff : Fr (fun _ => False) V w9 := Fr.trans (And.left (by assumption)) (Fr.of_grown hg))
        | (go_at_call 17; (with_reducible refine (c17 _ _ _ _ _).mono ?_); rintro e w10 ⟨rfl, hg⟩; have hff : Fr (fun _ => False) V w10 := Fr.trans (And.left (by assumption)) (Fr.of_grown hg))
        | (go_at_call 18; (with_reducible refine (c18 _ _ _).mono ?_); rintro e w11 ⟨rfl, hg⟩; have hff : Fr (fun _ => False) V w11 := Fr.trans (And.left (by assumption)) (Fr.of_grown hg)))
    (try dsimp only)
    refine hK.out _ _ ?_ (fun hHeld2 => ?_)
    · (try dsimp only); (first | assumption | exact HKW.out _ (Fr.refl _ _) | exact HKW.out _ ((Fr.refl _ _).drewN 1) | exact HKW.out _ (by assumption) | exact HKW.out _ (fr_al (And.left (by assumption)) _))
    clear hK K hHeld
    have hHeld := hHeld2
    clear hHeld2
    (try simp only [Act.put, List.setIfInBounds_toArray, List.set_cons_zero, List.set_cons_succ])
    refine wpAnyH_take (i := 7) (v := ?v64) ((List.getElem?_toArray ..).trans rfl) (by as_aux_lemma => kernel_rfl) (by as_aux_lemma => kernel_rfl) (by as_aux_lemma => kernel_rfl) (fun _ _ _ h => h) (Or.inl ⟨by rfl, ?hy64⟩) hHeld ?rest64
    case hy64 => (intro w hSw; (try dsimp only at hSw); go_simp; first | done | with_reducible rfl)
    (try simp only [Act.put, List.setIfInBounds_toArray, List.set_cons_zero, List.set_cons_succ])
    refine wpAnyH_ready (rs := [8]) (by as_aux_lemma => kernel_rfl) (by simp) ?_
    refine AllReadyH.cons (o := _) ((List.getElem?_toArray ..).trans rfl) (fun K hK => ?_) AllReadyH.nil
    go_simp
    refine hK.out _ _ ?_ (fun hHeld2 => ?_)
    · (try dsimp only); (first | assumption | exact HKW.out _ (Fr.refl _ _) | exact HKW.out _ ((Fr.refl _ _).drewN 1) | exact HKW.out _ (by assumption) | exact HKW.out _ (fr_al (And.left (by assumption)) _))
    clear hK K hHeld
    have hHeld := hHeld2
    clear hHeld2
    (try simp only [Act.put, List.setIfInBounds_toArray, List.set_cons_zero, List.set_cons_succ])
    refine wpAnyH_ready (rs := [9]) (by as_aux_lemma => kernel_rfl) (by simp) ?_
    refine AllReadyH.cons (o := _) ((List.getElem?_toArray ..).trans rfl) (fun K hK => ?_) AllReadyH.nil
    go_simp
    (first
        | (go_at_call 9; (with_reducible refine (c9 _).mono ?_); rintro e w2 ⟨rfl, hf⟩; have hff : Fr (fun _ => False) V w2 := Fr.trans (And.left (by assumption)) hf)
        | (go_at_call 10; (with_reducible refine (KR.out _).mono ?_); rintro e w3 ⟨rfl, hg⟩; have hf3 : Fr (fun _ => False) _ w3 := Fr.of_grown hg; have hff : Fr (fun _ => False) V w3 := Fr.trans (And.left (by assumption)) hf3; try (replace r0 := hf3.cell r0 id; replace r1 := hf3.cell r1 id; replace r2 := hf3.cell r2 id; replace r3 := hf3.cell r3 id; replace r4 := hf3.cell r4 id; replace r5 := hf3.cell r5 id; replace r6 := hf3.cell r6 id))
        | (go_at_call 12; (first | (with_reducible refine (KF.out _ _ (Fr.refl _ _)).mono ?_) | (with_reducible refine (KF.out _ _ hf3).mono ?_)); rintro e w4 ⟨rg, ro, rc, rfl, hf, r0, r1, r2, r3, r4, r5, r6⟩; have hff : Fr (fun _ => False) V w4 := (by first | exact Fr.trans hff hf | exact Fr.trans (And.left (by assumption)) hf | exact Fr.trans (fr_al hff _) hf | trace_state))
        | (go_at_call 11; (with_reducible refine (KQ.out _).mono ?_); rintro e w5 ⟨rfl, hg⟩; have hff : Fr (fun _ => False) V w5 := Fr.trans (And.left (by assumption)) (Fr.of_grown hg))
        | (go_at_call 13; (with_reducible refine (KC.out _).mono ?_); rintro e w6 ⟨rfl, rfl⟩)
        | (go_at_call 14; (with_reducible refine (KD.out _).mono ?_); rintro e w7 ⟨rfl, rfl⟩)
        | (go_at_call 15; (with_reducible refine (c15 _ _ n0 n1 _).mono ?_); rintro e w8 ⟨rfl, hg⟩; have hff : Fr (fun _ => False) V w8 := Fr.trans (And.left (by assumption)) (Fr.of_grown hg))
        | (go_at_call 16; (with_reducible refine (c16 _ _).mono ?_); rintro e w9 ⟨rfl, hg⟩; have hff : Fr (fun _ => False) V w9 := Fr.trans (And.left (by assumption)) (Fr.of_grown hg))
        | (go_at_call 17; (with_reducible refine (c17 _ _ _ _ _).mono ?_); rintro e w10 ⟨rfl, hg⟩; have hff : Fr (fun _ => False) V w10 := Fr.trans (And.left (by assumption)) (Fr.of_grown hg))
        | (go_at_call 18; (with_reducible refine (c18 _ _ _).mono ?_); rintro e w11 ⟨rfl, hg⟩; have hff : Fr (fun _ => False) V w11 := Fr.trans (And.left (by assumption)) (Fr.of_grown hg)))
    (try dsimp only)
    refine hK.out _ _ ?_ (fun hHeld2 => ?_)
    · (try dsimp only); (first | assumption | exact HKW.out _ (Fr.refl _ _) | exact HKW.out _ ((Fr.refl _ _).drewN 1) | exact HKW.out _ (by assumption) | exact HKW.out _ (fr_al (And.left (by assumption)) _))
    clear hK K hHeld
    have hHeld := hHeld2
    clear hHeld2
    (try simp only [Act.put, List.setIfInBounds_toArray, List.set_cons_zero, List.set_cons_succ])
    refine wpAnyH_take (i := 10) (v := ?v65) ((List.getElem?_toArray ..).trans rfl) (by as_aux_lemma => kernel_rfl) (by as_aux_lemma => kernel_rfl) (by as_aux_lemma => kernel_rfl) (fun _ _ _ h => h) (Or.inl ⟨by rfl, ?hy65⟩) hHeld ?rest65
    case hy65 => (intro w hSw; (try dsimp only at hSw); go_simp; first | done | with_reducible rfl)
    (try simp only [Act.put, List.setIfInBounds_toArray, List.set_cons_zero, List.set_cons_succ])
    refine wpAnyH_take (i := 11) (v := ?v66) ((List.getElem?_toArray ..).trans rfl) (by as_aux_lemma => kernel_rfl) (by as_aux_lemma => kernel_rfl) (by as_aux_lemma => kernel_rfl) (fun _ _ _ h => h) (Or.inl ⟨by rfl, ?hy66⟩) hHeld ?rest66
    case hy66 => (intro w hSw; (try dsimp only at hSw); go_simp; first | done | with_reducible rfl)
    (try simp only [Act.put, List.setIfInBounds_toArray, List.set_cons_zero, List.set_cons_succ])
    refine wpAnyH_take (i := 12) (v := ?v67) ((List.getElem?_toArray ..).trans rfl) (by as_aux_lemma => kernel_rfl) (by as_aux_lemma => kernel_rfl) (by as_aux_lemma => kernel_rfl) (fun _ _ _ h => h) (Or.inl ⟨by rfl, ?hy67⟩) hHeld ?rest67
    case hy67 => (intro w hSw; (try dsimp only at hSw); go_simp; first | done | with_reducible rfl)
    (try simp only [Act.put, List.setIfInBounds_toArray, List.set_cons_zero, List.set_cons_succ])
    refine wpAnyH_take (i := 13) (v := ?v68) ((List.getElem?_toArray ..).trans rfl) (by as_aux_lemma => kernel_rfl) (by as_aux_lemma => kernel_rfl) (by as_aux_lemma => kernel_rfl) (fun _ _ _ h => h) (Or.inl ⟨by rfl, ?hy68⟩) hHeld ?rest68
    case hy68 => (intro w hSw; (try dsimp only at hSw); go_simp; first | done | with_reducible rfl)
    (try simp only [Act.put, List.setIfInBounds_toArray, List.set_cons_zero, List.set_cons_succ])
    refine wpAnyH_take (i := 15) (v := ?v69) ((List.getElem?_toArray ..).trans rfl) (by as_aux_lemma => kernel_rfl) (by as_aux_lemma => kernel_rfl) (by as_aux_lemma => kernel_rfl) (fun _ _ _ h => h) (Or.inl ⟨by rfl, ?hy69⟩) hHeld ?rest69
    case hy69 => (intro w hSw; (try dsimp only at hSw); go_simp; first | done | with_reducible rfl)
    (try simp only [Act.put, List.setIfInBounds_toArray, List.set_cons_zero, List.set_cons_succ])
    refine wpAnyH_ready (rs := [14]) (by as_aux_lemma => kernel_rfl) (by simp) ?_
    refine AllReadyH.cons (o := _) ((List.getElem?_toArray ..).trans rfl) (fun K hK => ?_) AllReadyH.nil
    go_simp
    (first
        | (go_at_call 9; (with_reducible refine (c9 _).mono ?_); rintro e w2 ⟨rfl, hf⟩; have hff : Fr (fun _ => False) V w2 := Fr.trans (And.left (by assumption)) hf)
        | (go_at_call 10; (with_reducible refine (KR.out _).mono ?_); rintro e w3 ⟨rfl, hg⟩; have hf3 : Fr (fun _ => False) _ w3 := Fr.of_grown hg; have hff : Fr (fun _ => False) V w3 := Fr.trans (And.left (by assumption)) hf3; try (replace r0 := hf3.cell r0 id; replace r1 := hf3.cell r1 id; replace r2 := hf3.cell r2 id; replace r3 := hf3.cell r3 id; replace r4 := hf3.cell r4 id; replace r5 := hf3.cell r5 id; replace r6 := hf3.cell r6 id))
        | (go_at_call 12; (first | (with_reducible refine (KF.out _ _ (Fr.refl _ _)).mono ?_) | (with_reducible refine (KF.out _ _ hf3).mono ?_)); rintro e w4 ⟨rg, ro, rc, rfl, hf, r0, r1, r2, r3, r4, r5, r6⟩; have hff : Fr (fun _ => False) V w4 := (by first | exact Fr.trans hff hf | exact Fr.trans (And.left (by assumption)) hf | exact Fr.trans (fr_al hff _) hf | trace_state))
        | (go_at_call 11; (with_reducible refine (KQ.out _).mono ?_); rintro e w5 ⟨rfl, hg⟩; have hff : Fr (fun _ => False) V w5 := Fr.trans (And.left (by assumption)) (Fr.of_grown hg))
        | (go_at_call 13; (with_reducible refine (KC.out _).mono ?_); rintro e w6 ⟨rfl, rfl⟩)
        | (go_at_call 14; (with_reducible refine (KD.out _).mono ?_); rintro e w7 ⟨rfl, rfl⟩)
        | (go_at_call 15; (with_reducible refine (c15 _ _ n0 n1 _).mono ?_); rintro e w8 ⟨rfl, hg⟩; have hff : Fr (fun _ => False) V w8 := Fr.trans (And.left (by assumption)) (Fr.of_grown hg))
        | (go_at_call 16; (with_reducible refine (c16 _ _).mono ?_); rintro e w9 ⟨rfl, hg⟩; have hff : Fr (fun _ => False) V w9 := Fr.trans (And.left (by assumption)) (Fr.of_grown hg))
        | (go_at_call 17; (with_reducible refine (c17 _ _ _ _ _).mono ?_); rintro e w10 ⟨rfl, hg⟩; have hff : Fr (fun _ => False) V w10 := Fr.trans (And.left (by assumption)) (Fr.of_grown hg))
        | (go_at_call 18; (with_reducible refine (c18 _ _ _).mono ?_); rintro e w11 ⟨rfl, hg⟩; have hff : Fr (fun _ => False) V w11 := Fr.trans (And.left (by assumption)) (Fr.of_grown hg)))
    (try dsimp only)
    refine hK.out _ _ ?_ (fun hHeld2 => ?_)
    · (try dsimp only); (first | assumption | exact HKW.out _ (Fr.refl _ _) | exact HKW.out _ ((Fr.refl _ _).drewN 1) | exact HKW.out _ (by assumption) | exact HKW.out _ (fr_al (And.left (by assumption)) _))
    clear hK K hHeld
    have hHeld := hHeld2
    clear hHeld2
    (try simp only [Act.put, List.setIfInBounds_toArray, List.set_cons_zero, List.set_cons_succ])
    refine wpAnyH_ready (rs := [16]) (by as_aux_lemma => kernel_rfl) (by simp) ?_
    refine AllReadyH.cons (o := _) ((List.getElem?_toArray ..).trans rfl) (fun K hK => ?_) AllReadyH.nil
    go_simp
    (first
        | (go_at_call 9; (with_reducible refine (c9 _).mono ?_); rintro e w2 ⟨rfl, hf⟩; have hff : Fr (fun _ => False) V w2 := Fr.trans (And.left (by assumption)) hf)
        | (go_at_call 10; (with_reducible refine (KR.out _).mono ?_); rintro e w3 ⟨rfl, hg⟩; have hf3 : Fr (fun _ => False) _ w3 := Fr.of_grown hg; have hff : Fr (fun _ => False) V w3 := Fr.trans (And.left (by assumption)) hf3; try (replace r0 := hf3.cell r0 id; replace r1 := hf3.cell r1 id; replace r2 := hf3.cell r2 id; replace r3 := hf3.cell r3 id; replace r4 := hf3.cell r4 id; replace r5 := hf3.cell r5 id; replace r6 := hf3.cell r6 id))
        | (go_at_call 12; (first | (with_reducible refine (KF.out _ _ (Fr.refl _ _)).mono ?_) | (with_reducible refine (KF.out _ _ hf3).mono ?_)); rintro e w4 ⟨rg, ro, rc, rfl, hf, r0, r1, r2, r3, r4, r5, r6⟩; have hff : Fr (fun _ => False) V w4 := (by first | exact Fr.trans hff hf | exact Fr.trans (And.left (by assumption)) hf | exact Fr.trans (fr_al hff _) hf | trace_state))
        | (go_at_call 11; (with_reducible refine (KQ.out _).mono ?_); rintro e w5 ⟨rfl, hg⟩; have hff : Fr (fun _ => False) V w5 := Fr.trans (And.left (by assumption)) (Fr.of_grown hg))
        | (go_at_call 13; (with_reducible refine (KC.out _).mono ?_); rintro e w6 ⟨rfl, rfl⟩)
        | (go_at_call 14; (with_reducible refine (KD.out _).mono ?_); rintro e w7 ⟨rfl, rfl⟩)
        | (go_at_call 15; (with_reducible refine (c15 _ _ n0 n1 _).mono ?_); rintro e w8 ⟨rfl, hg⟩; have hff : Fr (fun _ => False) V w8 := Fr.trans (And.left (by assumption)) (Fr.of_grown hg))
        | (go_at_call 16; (with_reducible refine (c16 _ _).mono ?_); rintro e w9 ⟨rfl, hg⟩; have hff : Fr (fun _ => False) V w9 := Fr.trans (And.left (by assumption)) (Fr.of_grown hg))
        | (go_at_call 17; (with_reducible refine (c17 _ _ _ _ _).mono ?_); rintro e w10 ⟨rfl, hg⟩; have hff : Fr (fun _ => False) V w10 := Fr.trans (And.left (by assumption)) (Fr.of_grown hg))
        | (go_at_call 18; (with_reducible refine (c18 _ _ _).mono ?_); rintro e w11 ⟨rfl, hg⟩; have hff : Fr (fun _ => False) V w11 := Fr.trans (And.left (by assumption)) (Fr.of_grown hg)))
    (try dsimp only)
    refine hK.out _ _ ?_ (fun hHeld2 => ?_)
    · (try dsimp only); (first | assumption | exact HKW.out _ (Fr.refl _ _) | exact HKW.out _ ((Fr.refl _ _).drewN 1) | exact HKW.out _ (by assumption) | exact HKW.out _ (fr_al (And.left (by assumption)) _))
    clear hK K hHeld
    have hHeld := hHeld2
    clear hHeld2
    (try simp only [Act.put, List.setIfInBounds_toArray, List.set_cons_zero, List.set_cons_succ])
    refine wpAnyH_take (i := 17) (v := ?v70) ((List.getElem?_toArray ..).trans rfl) (by as_aux_lemma => kernel_rfl) (by as_aux_lemma => kernel_rfl) (by as_aux_lemma => kernel_rfl) (fun _ _ _ h => h) (Or.inl ⟨by rfl, ?hy70⟩) hHeld ?rest70
    case hy70 => (intro w hSw; (try dsimp only at hSw); go_simp; first | done | with_reducible rfl)
    (try simp only [Act.put, List.setIfInBounds_toArray, List.set_cons_zero, List.set_cons_succ])
    refine wpAnyH_take (i := 18) (v := ?v71) ((List.getElem?_toArray ..).trans rfl) (by as_aux_lemma => kernel_rfl) (by as_aux_lemma => kernel_rfl) (by as_aux_lemma => kernel_rfl) (fun _ _ _ h => h) (Or.inl ⟨by rfl, ?hy71⟩) hHeld ?rest71
    case hy71 => (intro w hSw; (try dsimp only at hSw); go_simp; first | done | with_reducible rfl)
    (try simp only [Act.put, List.setIfInBounds_toArray, List.set_cons_zero, List.set_cons_succ])
    refine wpAnyH_take (i := 19) (v := ?v72) ((List.getElem?_toArray ..).trans rfl) (by as_aux_lemma => kernel_rfl) (by as_aux_lemma => kernel_rfl) (by as_aux_lemma => kernel_rfl) (fun _ _ _ h => h) (Or.inl ⟨by rfl, ?hy72⟩) hHeld ?rest72
    case hy72 => (intro w hSw; (try dsimp only at hSw); go_simp; first | done | with_reducible rfl)
    (try simp only [Act.put, List.setIfInBounds_toArray, List.set_cons_zero, List.set_cons_succ])
    refine wpAnyH_take (i := 20) (v := ?v73) ((List.getElem?_toArray ..).trans rfl) (by as_aux_lemma => kernel_rfl) (by as_aux_lemma => kernel_rfl) (by as_aux_lemma => kernel_rfl) (fun _ _ _ h => h) (Or.inl ⟨by rfl, ?hy73⟩) hHeld ?rest73
    case hy73 => (intro w hSw; (try dsimp only at hSw); go_simp; first | done | with_reducible rfl)
    (try simp only [Act.put, List.setIfInBounds_toArray, List.set_cons_zero, List.set_cons_succ])
    refine wpAnyH_take (i := 21) (v := ?v74) ((List.getElem?_toArray ..).trans rfl) (by as_aux_lemma => kernel_rfl) (by as_aux_lemma => kernel_rfl) (by as_aux_lemma => kernel_rfl) (fun _ _ _ h => h) (Or.inl ⟨by rfl, ?hy74⟩) hHeld ?rest74
    case hy74 => (intro w hSw; (try dsimp only at hSw); go_simp; first | done | with_reducible rfl)
    (try simp only [Act.put, List.setIfInBounds_toArray, List.set_cons_zero, List.set_cons_succ])
    refine wpAnyH_take (i := 22) (v := ?v75) ((List.getElem?_toArray ..).trans rfl) (by as_aux_lemma => kernel_rfl) (by as_aux_lemma => kernel_rfl) (by as_aux_lemma => kernel_rfl) (fun _ _ _ h => h) (Or.inl ⟨by rfl, ?hy75⟩) hHeld ?rest75
    case hy75 => (intro w hSw; (try dsimp only at hSw); go_simp; first | done | with_reducible rfl)
    (try simp only [Act.put, List.setIfInBounds_toArray, List.set_cons_zero, List.set_cons_succ])
    refine wpAnyH_take (i := 23) (v := ?v76) ((List.getElem?_toArray ..).trans rfl) (by as_aux_lemma => kernel_rfl) (by as_aux_lemma => kernel_rfl) (by as_aux_lemma => kernel_rfl) (fun _ _ _ h => h) (Or.inl ⟨by rfl, ?hy76⟩) hHeld ?rest76
    case hy76 => (intro w hSw; (try dsimp only at hSw); go_simp; first | done | with_reducible rfl)
    (try simp only [Act.put, List.setIfInBounds_toArray, List.set_cons_zero, List.set_cons_succ])
    refine wpAnyH_take (i := 24) (v := ?v77) ((List.getElem?_toArray ..).trans rfl) (by as_aux_lemma => kernel_rfl) (by as_aux_lemma => kernel_rfl) (by as_aux_lemma => kernel_rfl) (fun _ _ _ h => h) (Or.inl ⟨by rfl, ?hy77⟩) hHeld ?rest77
    case hy77 => (intro w hSw; (try dsimp only at hSw); go_simp; first | done | with_reducible rfl)
    (try simp only [Act.put, List.setIfInBounds_toArray, List.set_cons_zero, List.set_cons_succ])
    refine wpAnyH_take (i := 25) (v := ?v78) ((List.getElem?_toArray ..).trans rfl) (by as_aux_lemma => kernel_rfl) (by as_aux_lemma => kernel_rfl) (by as_aux_lemma => kernel_rfl) (fun _ _ _ h => h) (Or.inl ⟨by rfl, ?hy78⟩) hHeld ?rest78
    case hy78 => (intro w hSw; (try dsimp only at hSw); go_simp; first | done | with_reducible rfl)
    (try simp only [Act.put, List.setIfInBounds_toArray, List.set_cons_zero, List.set_cons_succ])
    refine wpAnyH_take (i := 26) (v := ?v79) ((List.getElem?_toArray ..).trans rfl) (by as_aux_lemma => kernel_rfl) (by as_aux_lemma => kernel_rfl) (by as_aux_lemma => kernel_rfl) (fun _ _ _ h => h) (Or.inl ⟨by rfl, ?hy79⟩) hHeld ?rest79
    case hy79 => (intro w hSw; (try dsimp only at hSw); go_simp; first | done | with_reducible rfl)
    (try simp only [Act.put, List.setIfInBounds_toArray, List.set_cons_zero, List.set_cons_succ])
    refine wpAnyH_take (i := 27) (v := ?v80) ((List.getElem?_toArray ..).trans rfl) (by as_aux_lemma => kernel_rfl) (by as_aux_lemma => kernel_rfl) (by as_aux_lemma => kernel_rfl) (fun _ _ _ h => h) (Or.inl ⟨by rfl, ?hy80⟩) hHeld ?rest80
    case hy80 => (intro w hSw; (try dsimp only at hSw); go_simp; first | done | with_reducible rfl)
    (try simp only [Act.put, List.setIfInBounds_toArray, List.set_cons_zero, List.set_cons_succ])
    refine wpAnyH_take (i := 28) (v := ?v81) ((List.getElem?_toArray ..).trans rfl) (by as_aux_lemma => kernel_rfl) (by as_aux_lemma => kernel_rfl) (by as_aux_lemma => kernel_rfl) (fun _ _ _ h => h) (Or.inl ⟨by rfl, ?hy81⟩) hHeld ?rest81
    case hy81 => (intro w hSw; (try dsimp only at hSw); go_simp; first | done | with_reducible rfl)
    (try simp only [Act.put, List.setIfInBounds_toArray, List.set_cons_zero, List.set_cons_succ])
    refine wpAnyH_take (i := 29) (v := ?v82) ((List.getElem?_toArray ..).trans rfl) (by as_aux_lemma => kernel_rfl) (by as_aux_lemma => kernel_rfl) (by as_aux_lemma => kernel_rfl) (fun _ _ _ h => h) (Or.inl ⟨by rfl, ?hy82⟩) hHeld ?rest82
    case hy82 => (intro w hSw; (try dsimp only at hSw); go_simp; first | done | with_reducible rfl)
    (try simp only [Act.put, List.setIfInBounds_toArray, List.set_cons_zero, List.set_cons_succ])
    refine wpAnyH_take (i := 30) (v := ?v83) ((List.getElem?_toArray ..).trans rfl) (by as_aux_lemma => kernel_rfl) (by as_aux_lemma => kernel_rfl) (by as_aux_lemma => kernel_rfl) (fun _ _ _ h => h) (Or.inl ⟨by rfl, ?hy83⟩) hHeld ?rest83
    case hy83 => (intro w hSw; (try dsimp only at hSw); go_simp; first | done | with_reducible rfl)
    (try simp only [Act.put, List.setIfInBounds_toArray, List.set_cons_zero, List.set_cons_succ])
    refine wpAnyH_take (i := 31) (v := ?v84) ((List.getElem?_toArray ..).trans rfl) (by as_aux_lemma => kernel_rfl) (by as_aux_lemma => kernel_rfl) (by as_aux_lemma => kernel_rfl) (fun _ _ _ h => h) (Or.inl ⟨by rfl, ?hy84⟩) hHeld ?rest84
    case hy84 => (intro w hSw; (try dsimp only at hSw); go_simp; first | done | with_reducible rfl)
    (try simp only [Act.put, List.setIfInBounds_toArray, List.set_cons_zero, List.set_cons_succ])
    refine wpAnyH_take (i := 32) (v := ?v85) ((List.getElem?_toArray ..).trans rfl) (by as_aux_lemma => kernel_rfl) (by as_aux_lemma => kernel_rfl) (by as_aux_lemma => kernel_rfl) (fun _ _ _ h => h) (Or.inl ⟨by rfl, ?hy85⟩) hHeld ?rest85
    case hy85 => (intro w hSw; (try dsimp only at hSw); go_simp; first | done | with_reducible rfl)
    (try simp only [Act.put, List.setIfInBounds_toArray, List.set_cons_zero, List.set_cons_succ])
    refine wpAnyH_take (i := 33) (v := ?v86) ((List.getElem?_toArray ..).trans rfl) (by as_aux_lemma => kernel_rfl) (by as_aux_lemma => kernel_rfl) (by as_aux_lemma => kernel_rfl) (fun _ _ _ h => h) (Or.inl ⟨by rfl, ?hy86⟩) hHeld ?rest86
    case hy86 => (intro w hSw; (try dsimp only at hSw); go_simp; first | done | with_reducible rfl)
    (try simp only [Act.put, List.setIfInBounds_toArray, List.set_cons_zero, List.set_cons_succ])
    refine wpAnyH_take (i := 34) (v := ?v87) ((List.getElem?_toArray ..).trans rfl) (by as_aux_lemma => kernel_rfl) (by as_aux_lemma => kernel_rfl) (by as_aux_lemma => kernel_rfl) (fun _ _ _ h => h) (Or.inl ⟨by rfl, ?hy87⟩) hHeld ?rest87
    case hy87 => (intro w hSw; (try dsimp only at hSw); go_simp; first | done | with_reducible rfl)
    (try simp only [Act.put, List.setIfInBounds_toArray, List.set_cons_zero, List.set_cons_succ])
    refine wpAnyH_take (i := 36) (v := ?v88) ((List.getElem?_toArray ..).trans rfl) (by as_aux_lemma => kernel_rfl) (by as_aux_lemma => kernel_rfl) (by as_aux_lemma => kernel_rfl) (fun _ _ _ h => h) (Or.inl ⟨by rfl, ?hy88⟩) hHeld ?rest88
    case hy88 => (intro w hSw; (try dsimp only at hSw); go_simp; first | done | with_reducible rfl)
    (try simp only [Act.put, List.setIfInBounds_toArray, List.set_cons_zero, List.set_cons_succ])
    refine wpAnyH_take (i := 37) (v := ?v89) ((List.getElem?_toArray ..).trans rfl) (by as_aux_lemma => kernel_rfl) (by as_aux_lemma => kernel_rfl) (by as_aux_lemma => kernel_rfl) (fun _ _ _ h => h) (Or.inl ⟨by rfl, ?hy89⟩) hHeld ?rest89
    case hy89 => (intro w hSw; (try dsimp only at hSw); go_simp; first | done | with_reducible rfl)
    (try simp only [Act.put, List.setIfInBounds_toArray, List.set_cons_zero, List.set_cons_succ])
    refine wpAnyH_take (i := 38) (v := ?v90) ((List.getElem?_toArray ..).trans rfl) (by as_aux_lemma => kernel_rfl) (by as_aux_lemma => kernel_rfl) (by as_aux_lemma => kernel_rfl) (fun _ _ _ h => h) (Or.inl ⟨by rfl, ?hy90⟩) hHeld ?rest90
    case hy90 => (intro w hSw; (try dsimp only at hSw); go_simp; first | done | with_reducible rfl)
    (try simp only [Act.put, List.setIfInBounds_toArray, List.set_cons_zero, List.set_cons_succ])
    refine wpAnyH_take (i := 39) (v := ?v91) ((List.getElem?_toArray ..).trans rfl) (by as_aux_lemma => kernel_rfl) (by as_aux_lemma => kernel_rfl) (by as_aux_lemma => kernel_rfl) (fun _ _ _ h => h) (Or.inl ⟨by rfl, ?hy91⟩) hHeld ?rest91
    case hy91 => (intro w hSw; (try dsimp only at hSw); go_simp; first | done | with_reducible rfl)
    (try simp only [Act.put, List.setIfInBounds_toArray, List.set_cons_zero, List.set_cons_succ])
    refine wpAnyH_take (i := 40) (v := ?v92) ((List.getElem?_toArray ..).trans rfl) (by as_aux_lemma => kernel_rfl) (by as_aux_lemma => kernel_rfl) (by as_aux_lemma => kernel_rfl) (fun _ _ _ h => h) (Or.inl ⟨by rfl, ?hy92⟩) hHeld ?rest92
    case hy92 => (intro w hSw; (try dsimp only at hSw); go_simp; first | done | with_reducible rfl)
    (try simp only [Act.put, List.setIfInBounds_toArray, List.set_cons_zero, List.set_cons_succ])
    refine wpAnyH_ready (rs := [35]) (by as_aux_lemma => kernel_rfl) (by simp) ?_
    refine AllReadyH.cons (o := _) ((List.getElem?_toArray ..).trans rfl) (fun K hK => ?_) AllReadyH.nil
    go_simp
    (first
        | (go_at_call 9; (with_reducible refine (c9 _).mono ?_); rintro e w2 ⟨rfl, hf⟩; have hff : Fr (fun _ => False) V w2 := Fr.trans (And.left (by assumption)) hf)
        | (go_at_call 10; (with_reducible refine (KR.out _).mono ?_); rintro e w3 ⟨rfl, hg⟩; have hf3 : Fr (fun _ => False) _ w3 := Fr.of_grown hg; have hff : Fr (fun _ => False) V w3 := Fr.trans (And.left (by assumption)) hf3; try (replace r0 := hf3.cell r0 id; replace r1 := hf3.cell r1 id; replace r2 := hf3.cell r2 id; replace r3 := hf3.cell r3 id; replace r4 := hf3.cell r4 id; replace r5 := hf3.cell r5 id; replace r6 := hf3.cell r6 id))
        | (go_at_call 12; (first | (with_reducible refine (KF.out _ _ (Fr.refl _ _)).mono ?_) | (with_reducible refine (KF.out _ _ hf3).mono ?_)); rintro e w4 ⟨rg, ro, rc, rfl, hf, r0, r1, r2, r3, r4, r5, r6⟩; have hff : Fr (fun _ => False) V w4 := (by first | exact Fr.trans hff hf | exact Fr.trans (And.left (by assumption)) hf | exact Fr.trans (fr_al hff _) hf | trace_state))
        | (go_at_call 11; (with_reducible refine (KQ.out _).mono ?_); rintro e w5 ⟨rfl, hg⟩; have hff : Fr (fun _ => False) V w5 := Fr.trans (And.left (by assumption)) (Fr.of_grown hg))
        | (go_at_call 13; (with_reducible refine (KC.out _).mono ?_); rintro e w6 ⟨rfl, rfl⟩)
        | (go_at_call 14; (with_reducible refine (KD.out _).mono ?_); rintro e w7 ⟨rfl, rfl⟩)
        | (go_at_call 15; (with_reducible refine (c15 _ _ n0 n1 _).mono ?_); rintro e w8 ⟨rfl, hg⟩; have hff : Fr (fun _ => False) V w8 := Fr.trans (And.left (by assumption)) (Fr.of_grown hg))
        | (go_at_call 16; (with_reducible refine (c16 _ _).mono ?_); rintro e w9 ⟨rfl, hg⟩; have hff : Fr (fun _ => False) V w9 := Fr.trans (And.left (by assumption)) (Fr.of_grown hg))
        | (go_at_call 17; (with_reducible refine (c17 _ _ _ _ _).mono ?_); rintro e w10 ⟨rfl, hg⟩; have hff : Fr (fun _ => False) V w10 := Fr.trans (And.left (by assumption)) (Fr.of_grown hg))
        | (go_at_call 18; (with_reducible refine (c18 _ _ _).mono ?_); rintro e w11 ⟨rfl, hg⟩; have hff : Fr (fun _ => False) V w11 := Fr.trans (And.left (by assumption)) (Fr.of_grown hg)))
    (try dsimp only)
    refine hK.out _ _ ?_ (fun hHeld2 => ?_)
    · (try dsimp only); (first | assumption | exact HKW.out _ (Fr.refl _ _) | exact HKW.out _ ((Fr.refl _ _).drewN 1) | exact HKW.out _ (by assumption) | exact HKW.out _ (fr_al (And.left (by assumption)) _))
    clear hK K hHeld
    have hHeld := hHeld2
    clear hHeld2
    (try simp only [Act.put, List.setIfInBounds_toArray, List.set_cons_zero, List.set_cons_succ])
    refine wpAnyH_take (i := 41) (v := ?v93) ((List.getElem?_toArray ..).trans rfl) (by as_aux_lemma => kernel_rfl) (by as_aux_lemma => kernel_rfl) (by as_aux_lemma => kernel_rfl) (fun _ _ _ h => h) (Or.inl ⟨by rfl, ?hy93⟩) hHeld ?rest93
    case hy93 => (intro w hSw; (try dsimp only at hSw); go_simp; first | done | with_reducible rfl)
    (try simp only [Act.put, List.setIfInBounds_toArray, List.set_cons_zero, List.set_cons_succ])
    refine wpAnyH_take (i := 42) (v := ?v94) ((List.getElem?_toArray ..).trans rfl) (by as_aux_lemma => kernel_rfl) (by as_aux_lemma => kernel_rfl) (by as_aux_lemma => kernel_rfl) (fun _ _ _ h => h) (Or.inl ⟨by rfl, ?hy94⟩) hHeld ?rest94
    case hy94 => (intro w hSw; (try dsimp only at hSw); go_simp; first | done | with_reducible rfl)
    (try simp only [Act.put, List.setIfInBounds_toArray, List.set_cons_zero, List.set_cons_succ])
    refine wpAnyH_take (i := 43) (v := ?v95) ((List.getElem?_toArray ..).trans rfl) (by as_aux_lemma => kernel_rfl) (by as_aux_lemma => kernel_rfl) (by as_aux_lemma => kernel_rfl) (fun _ _ _ h => h) (Or.inl ⟨by rfl, ?hy95⟩) hHeld ?rest95
    case hy95 => (intro w hSw; (try dsimp only at hSw); go_simp; first | done | with_reducible rfl)
    (try simp only [Act.put, List.setIfInBounds_toArray, List.set_cons_zero, List.set_cons_succ])
    refine wpAnyH_take (i := 44) (v := ?v96) ((List.getElem?_toArray ..).trans rfl) (by as_aux_lemma => kernel_rfl) (by as_aux_lemma => kernel_rfl) (by as_aux_lemma => kernel_rfl) (fun _ _ _ h => h) (Or.inl ⟨by rfl, ?hy96⟩) hHeld ?rest96
    case hy96 => (intro w hSw; (try dsimp only at hSw); go_simp; first | done | with_reducible rfl)
    (try simp only [Act.put, List.setIfInBounds_toArray, List.set_cons_zero, List.set_cons_succ])
    refine wpAnyH_take (i := 46) (v := ?v97) ((List.getElem?_toArray ..).trans rfl) (by as_aux_lemma => kernel_rfl) (by as_aux_lemma => kernel_rfl) (by as_aux_lemma => kernel_rfl) (fun _ _ _ h => h) (Or.inl ⟨by rfl, ?hy97⟩) hHeld ?rest97
    case hy97 => (intro w hSw; (try dsimp only at hSw); go_simp; first | done | with_reducible rfl)
    (try simp only [Act.put, List.setIfInBounds_toArray, List.set_cons_zero, List.set_cons_succ])
    refine wpAnyH_take (i := 47) (v := ?v98) ((List.getElem?_toArray ..).trans rfl) (by as_aux_lemma => kernel_rfl) (by as_aux_lemma => kernel_rfl) (by as_aux_lemma => kernel_rfl) (fun _ _ _ h => h) (Or.inl ⟨by rfl, ?hy98⟩) hHeld ?rest98
    case hy98 => (intro w hSw; (try dsimp only at hSw); go_simp; first | done | with_reducible rfl)
    (try simp only [Act.put, List.setIfInBounds_toArray, List.set_cons_zero, List.set_cons_succ])
    refine wpAnyH_ready (rs := [45]) (by as_aux_lemma => kernel_rfl) (by simp) ?_
    refine AllReadyH.cons (o := _) ((List.getElem?_toArray ..).trans rfl) (fun K hK => ?_) AllReadyH.nil
    go_simp
    (first
        | (go_at_call 9; (with_reducible refine (c9 _).mono ?_); rintro e w2 ⟨rfl, hf⟩; have hff : Fr (fun _ => False) V w2 := Fr.trans (And.left (by assumption)) hf)
        | (go_at_call 10; (with_reducible refine (KR.out _).mono ?_); rintro e w3 ⟨rfl, hg⟩; have hf3 : Fr (fun _ => False) _ w3 := Fr.of_grown hg; have hff : Fr (fun _ => False) V w3 := Fr.trans (And.left (by assumption)) hf3; try (replace r0 := hf3.cell r0 id; replace r1 := hf3.cell r1 id; replace r2 := hf3.cell r2 id; replace r3 := hf3.cell r3 id; replace r4 := hf3.cell r4 id; replace r5 := hf3.cell r5 id; replace r6 := hf3.cell r6 id))
        | (go_at_call 12; (first | (with_reducible refine (KF.out _ _ (Fr.refl _ _)).mono ?_) | (with_reducible refine (KF.out _ _ hf3).mono ?_)); rintro e w4 ⟨rg, ro, rc, rfl, hf, r0, r1, r2, r3, r4, r5, r6⟩; have hff : Fr (fun _ => False) V w4 := (by first | exact Fr.trans hff hf | exact Fr.trans (And.left (by assumption)) hf | exact Fr.trans (fr_al hff _) hf | trace_state))
        | (go_at_call 11; (with_reducible refine (KQ.out _).mono ?_); rintro e w5 ⟨rfl, hg⟩; have hff : Fr (fun _ => False) V w5 := Fr.trans (And.left (by assumption)) (Fr.of_grown hg))
        | (go_at_call 13; (with_reducible refine (KC.out _).mono ?_); rintro e w6 ⟨rfl, rfl⟩)
        | (go_at_call 14; (with_reducible refine (KD.out _).mono ?_); rintro e w7 ⟨rfl, rfl⟩)
        | (go_at_call 15; (with_reducible refine (c15 _ _ n0 n1 _).mono ?_); rintro e w8 ⟨rfl, hg⟩; have hff : Fr (fun _ => False) V w8 := Fr.trans (And.left (by assumption)) (Fr.of_grown hg))
        | (go_at_call 16; (with_reducible refine (c16 _ _).mono ?_); rintro e w9 ⟨rfl, hg⟩; have hff : Fr (fun _ => False) V w9 := Fr.trans (And.left (by assumption)) (Fr.of_grown hg))
        | (go_at_call 17; (with_reducible refine (c17 _ _ _ _ _).mono ?_); rintro e w10 ⟨rfl, hg⟩; have hff : Fr (fun _ => False) V w10 := Fr.trans (And.left (by assumption)) (Fr.of_grown hg))
        | (go_at_call 18; (with_reducible refine (c18 _ _ _).mono ?_); rintro e w11 ⟨rfl, hg⟩; have hff : Fr (fun _ => False) V w11 := Fr.trans (And.left (by assumption)) (Fr.of_grown hg)))
    (try dsimp only)
    refine hK.out _ _ ?_ (fun hHeld2 => ?_)
    · (try dsimp only); (first | assumption | exact HKW.out _ (Fr.refl _ _) | exact HKW.out _ ((Fr.refl _ _).drewN 1) | exact HKW.out _ (by assumption) | exact HKW.out _ (fr_al (And.left (by assumption)) _))
    clear hK K hHeld
    have hHeld := hHeld2
    clear hHeld2
    (try simp only [Act.put, List.setIfInBounds_toArray, List.set_cons_zero, List.set_cons_succ])
    refine wpAnyH_take (i := 48) (v := ?v99) ((List.getElem?_toArray ..).trans rfl) (by as_aux_lemma => kernel_rfl) (by as_aux_lemma => kernel_rfl) (by as_aux_lemma => kernel_rfl) (fun _ _ _ h => h) (Or.inl ⟨by rfl, ?hy99⟩) hHeld ?rest99
    case hy99 => (intro w hSw; (try dsimp only at hSw); go_simp; first | done | with_reducible rfl)
    (try simp only [Act.put, List.setIfInBounds_toArray, List.set_cons_zero, List.set_cons_succ])
    refine wpAnyH_take (i := 49) (v := ?v100) ((List.getElem?_toArray ..).trans rfl) (by as_aux_lemma => kernel_rfl) (by as_aux_lemma => kernel_rfl) (by as_aux_lemma => kernel_rfl) (fun _ _ _ h => h) (Or.inl ⟨by rfl, ?hy100⟩) hHeld ?rest100
    case hy100 => (intro w hSw; (try dsimp only at hSw); go_simp; first | done | with_reducible rfl)
    (try simp only [Act.put, List.setIfInBounds_toArray, List.set_cons_zero, List.set_cons_succ])
    refine wpAnyH_take (i := 50) (v := ?v101) ((List.getElem?_toArray ..).trans rfl) (by as_aux_lemma => kernel_rfl) (by as_aux_lemma => kernel_rfl) (by as_aux_lemma => kernel_rfl) (fun _ _ _ h => h) (Or.inl ⟨by rfl, ?hy101⟩) hHeld ?rest101
    case hy101 => (intro w hSw; (try dsimp only at hSw); go_simp; first | done | with_reducible rfl)
    (try simp only [Act.put, List.setIfInBounds_toArray, List.set_cons_zero, List.set_cons_succ])
    refine wpAnyH_take (i := 51) (v := ?v102) ((List.getElem?_toArray ..).trans rfl) (by as_aux_lemma => kernel_rfl) (by as_aux_lemma => kernel_rfl) (by as_aux_lemma => kernel_rfl) (fun _ _ _ h => h) (Or.inl ⟨by rfl, ?hy102⟩) hHeld ?rest102
    case hy102 => (intro w hSw; (try dsimp only at hSw); go_simp; first | done | with_reducible rfl)
    (try simp only [Act.put, List.setIfInBounds_toArray, List.set_cons_zero, List.set_cons_succ])
    refine wpAnyH_take (i := 52) (v := ?v103) ((List.getElem?_toArray ..).trans rfl) (by as_aux_lemma => kernel_rfl) (by as_aux_lemma => kernel_rfl) (by as_aux_lemma => kernel_rfl) (fun _ _ _ h => h) (Or.inl ⟨by rfl, ?hy103⟩) hHeld ?rest103
    case hy103 => (intro w hSw; (try dsimp only at hSw); go_simp; first | done | with_reducible rfl)
    (try simp only [Act.put, List.setIfInBounds_toArray, List.set_cons_zero, List.set_cons_succ])
    refine wpAnyH_take (i := 53) (v := ?v104) ((List.getElem?_toArray ..).trans rfl) (by as_aux_lemma => kernel_rfl) (by as_aux_lemma => kernel_rfl) (by as_aux_lemma => kernel_rfl) (fun _ _ _ h => h) (Or.inl ⟨by rfl, ?hy104⟩) hHeld ?rest104
    case hy104 => (intro w hSw; (try dsimp only at hSw); go_simp; first | done | with_reducible rfl)
    (try simp only [Act.put, List.setIfInBounds_toArray, List.set_cons_zero, List.set_cons_succ])
    refine wpAnyH_take (i := 54) (v := ?v105) ((List.getElem?_toArray ..).trans rfl) (by as_aux_lemma => kernel_rfl) (by as_aux_lemma => kernel_rfl) (by as_aux_lemma => kernel_rfl) (fun _ _ _ h => h) (Or.inl ⟨by rfl, ?hy105⟩) hHeld ?rest105
    case hy105 => (intro w hSw; (try dsimp only at hSw); go_simp; first | done | with_reducible rfl)
    (try simp only [Act.put, List.setIfInBounds_toArray, List.set_cons_zero, List.set_cons_succ])
    refine wpAnyH_take (i := 56) (v := ?v106) ((List.getElem?_toArray ..).trans rfl) (by as_aux_lemma => kernel_rfl) (by as_aux_lemma => kernel_rfl) (by as_aux_lemma => kernel_rfl) (fun _ _ _ h => h) (Or.inl ⟨by rfl, ?hy106⟩) hHeld ?rest106
    case hy106 => (intro w hSw; (try dsimp only at hSw); go_simp; first | done | with_reducible rfl)
    (try simp only [Act.put, List.setIfInBounds_toArray, List.set_cons_zero, List.set_cons_succ])
    refine wpAnyH_take (i := 57) (v := ?v107) ((List.getElem?_toArray ..).trans rfl) (by as_aux_lemma => kernel_rfl) (by as_aux_lemma => kernel_rfl) (by as_aux_lemma => kernel_rfl) (fun _ _ _ h => h) (Or.inl ⟨by rfl, ?hy107⟩) hHeld ?rest107
    case hy107 => (intro w hSw; (try dsimp only at hSw); go_simp; first | done | with_reducible rfl)
    (try simp only [Act.put, List.setIfInBounds_toArray, List.set_cons_zero, List.set_cons_succ])
    refine wpAnyH_take (i := 58) (v := ?v108) ((List.getElem?_toArray ..).trans rfl) (by as_aux_lemma => kernel_rfl) (by as_aux_lemma => kernel_rfl) (by as_aux_lemma => kernel_rfl) (fun _ _ _ h => h) (Or.inl ⟨by rfl, ?hy108⟩) hHeld ?rest108
    case hy108 => (intro w hSw; (try dsimp only at hSw); go_simp; first | done | with_reducible rfl)
    (try simp only [Act.put, List.setIfInBounds_toArray, List.set_cons_zero, List.set_cons_succ])
    refine wpAnyH_take (i := 59) (v := ?v109) ((List.getElem?_toArray ..).trans rfl) (by as_aux_lemma => kernel_rfl) (by as_aux_lemma => kernel_rfl) (by as_aux_lemma => kernel_rfl) (fun _ _ _ h => h) (Or.inl ⟨by rfl, ?hy109⟩) hHeld ?rest109
    case hy109 => (intro w hSw; (try dsimp only at hSw); go_simp; first | done | with_reducible rfl)
    (try simp only [Act.put, List.setIfInBounds_toArray, List.set_cons_zero, List.set_cons_succ])
    refine wpAnyH_take (i := 60) (v := ?v110) ((List.getElem?_toArray ..).trans rfl) (by as_aux_lemma => kernel_rfl) (by as_aux_lemma => kernel_rfl) (by as_aux_lemma => kernel_rfl) (fun _ _ _ h => h) (Or.inl ⟨by rfl, ?hy110⟩) hHeld ?rest110
    case hy110 => (intro w hSw; (try dsimp only at hSw); go_simp; first | done | with_reducible rfl)
    (try simp only [Act.put, List.setIfInBounds_toArray, List.set_cons_zero, List.set_cons_succ])
    refine wpAnyH_take (i := 61) (v := ?v111) ((List.getElem?_toArray ..).trans rfl) (by as_aux_lemma => kernel_rfl) (by as_aux_lemma => kernel_rfl) (by as_aux_lemma => kernel_rfl) (fun _ _ _ h => h) (Or.inl ⟨by rfl, ?hy111⟩) hHeld ?rest111
    case hy111 => (intro w hSw; (try dsimp only at hSw); go_simp; first | done | with_reducible rfl)
    (try simp only [Act.put, List.setIfInBounds_toArray, List.set_cons_zero, List.set_cons_succ])
    refine wpAnyH_ready (rs := [55]) (by as_aux_lemma => kernel_rfl) (by simp) ?_
    refine AllReadyH.cons (o := _) ((List.getElem?_toArray ..).trans rfl) (fun K hK => ?_) AllReadyH.nil
    go_simp
    (first
        | (go_at_call 9; (with_reducible refine (c9 _).mono ?_); rintro e w2 ⟨rfl, hf⟩; have hff : Fr (fun _ => False) V w2 := Fr.trans (And.left (by assumption)) hf)
        | (go_at_call 10; (with_reducible refine (KR.out _).mono ?_); rintro e w3 ⟨rfl, hg⟩; have hf3 : Fr (fun _ => False) _ w3 := Fr.of_grown hg; have hff : Fr (fun _ => False) V w3 := Fr.trans (And.left (by assumption)) hf3; try (replace r0 := hf3.cell r0 id; replace r1 := hf3.cell r1 id; replace r2 := hf3.cell r2 id; replace r3 := hf3.cell r3 id; replace r4 := hf3.cell r4 id; replace r5 := hf3.cell r5 id; replace r6 := hf3.cell r6 id))
        | (go_at_call 12; (first | (with_reducible refine (KF.out _ _ (Fr.refl _ _)).mono ?_) | (with_reducible refine (KF.out _ _ hf3).mono ?_)); rintro e w4 ⟨rg, ro, rc, rfl, hf, r0, r1, r2, r3, r4, r5, r6⟩; have hff : Fr (fun _ => False) V w4 := (by first | exact Fr.trans hff hf | exact Fr.trans (And.left (by assumption)) hf | exact Fr.trans (fr_al hff _) hf | trace_state))
        | (go_at_call 11; (with_reducible refine (KQ.out _).mono ?_); rintro e w5 ⟨rfl, hg⟩; have hff : Fr (fun _ => False) V w5 := Fr.trans (And.left (by assumption)) (Fr.of_grown hg))
        | (go_at_call 13; (with_reducible refine (KC.out _).mono ?_); rintro e w6 ⟨rfl, rfl⟩)
        | (go_at_call 14; (with_reducible refine (KD.out _).mono ?_); rintro e w7 ⟨rfl, rfl⟩)
        | (go_at_call 15; (with_reducible refine (c15 _ _ n0 n1 _).mono ?_); rintro e w8 ⟨rfl, hg⟩; have hff : Fr (fun _ => False) V w8 := Fr.trans (And.left (by assumption)) (Fr.of_grown hg))
        | (go_at_call 16; (with_reducible refine (c16 _ _).mono ?_); rintro e w9 ⟨rfl, hg⟩; have hff : Fr (fun _ => False) V w9 := Fr.trans (And.left (by assumption)) (Fr.of_grown hg))
        | (go_at_call 17; (with_reducible refine (c17 _ _ _ _ _).mono ?_); rintro e w10 ⟨rfl, hg⟩; have hff : Fr (fun _ => False) V w10 := Fr.trans (And.left (by assumption)) (Fr.of_grown hg))
        | (go_at_call 18; (with_reducible refine (c18 _ _ _).mono ?_); rintro e w11 ⟨rfl, hg⟩; have hff : Fr (fun _ => False) V w11 := Fr.trans (And.left (by assumption)) (Fr.of_grown hg)))
    (try dsimp only)
    refine hK.out _ _ ?_ (fun hHeld2 => ?_)
    · (try dsimp only); (first | assumption | exact HKW.out _ (Fr.refl _ _) | exact HKW.out _ ((Fr.refl _ _).drewN 1) | exact HKW.out _ (by assumption) | exact HKW.out _ (fr_al (And.left (by assumption)) _))
    clear hK K hHeld
    have hHeld := hHeld2
    clear hHeld2
    (try simp only [Act.put, List.setIfInBounds_toArray, List.set_cons_zero, List.set_cons_succ])
    refine wpAnyH_take (i := 62) (v := ?v112) ((List.getElem?_toArray ..).trans rfl) (by as_aux_lemma => kernel_rfl) (by as_aux_lemma => kernel_rfl) (by as_aux_lemma => kernel_rfl) (fun _ _ _ h => h) (Or.inl ⟨by rfl, ?hy112⟩) hHeld ?rest112
    case hy112 => (intro w hSw; (try dsimp only at hSw); go_simp; first | done | with_reducible rfl)
    (try simp only [Act.put, List.setIfInBounds_toArray, List.set_cons_zero, List.set_cons_succ])
    refine wpAnyH_take (i := 63) (v := ?v113) ((List.getElem?_toArray ..).trans rfl) (by as_aux_lemma => kernel_rfl) (by as_aux_lemma => kernel_rfl) (by as_aux_lemma => kernel_rfl) (fun _ _ _ h => h) (Or.inl ⟨by rfl, ?hy113⟩) hHeld ?rest113
    case hy113 => (intro w hSw; (try dsimp only at hSw); go_simp; first | done | with_reducible rfl)
    (try simp only [Act.put, List.setIfInBounds_toArray, List.set_cons_zero, List.set_cons_succ])
    refine wpAnyH_take (i := 64) (v := ?v114) ((List.getElem?_toArray ..).trans rfl) (by as_aux_lemma => kernel_rfl) (by as_aux_lemma => kernel_rfl) (by as_aux_lemma => kernel_rfl) (fun _ _ _ h => h) (Or.inl ⟨by rfl, ?hy114⟩) hHeld ?rest114
    case hy114 => (intro w hSw; (try dsimp only at hSw); go_simp; first | done | with_reducible rfl)
    (try simp only [Act.put, List.setIfInBounds_toArray, List.set_cons_zero, List.set_cons_succ])
    refine wpAnyH_take (i := 65) (v := ?v115) ((List.getElem?_toArray ..).trans rfl) (by as_aux_lemma => kernel_rfl) (by as_aux_lemma => kernel_rfl) (by as_aux_lemma => kernel_rfl) (fun _ _ _ h => h) (Or.inl ⟨by rfl, ?hy115⟩) hHeld ?rest115
    case hy115 => (intro w hSw; (try dsimp only at hSw); go_simp; first | done | with_reducible rfl)
    (try simp only [Act.put, List.setIfInBounds_toArray, List.set_cons_zero, List.set_cons_succ])
    refine wpAnyH_take (i := 66) (v := ?v116) ((List.getElem?_toArray ..).trans rfl) (by as_aux_lemma => kernel_rfl) (by as_aux_lemma => kernel_rfl) (by as_aux_lemma => kernel_rfl) (fun _ _ _ h => h) (Or.inl ⟨by rfl, ?hy116⟩) hHeld ?rest116
    case hy116 => (intro w hSw; (try dsimp only at hSw); go_simp; first | done | with_reducible rfl)
    (try simp only [Act.put, List.setIfInBounds_toArray, List.set_cons_zero, List.set_cons_succ])
    refine wpAnyH_take (i := 68) (v := ?v117) ((List.getElem?_toArray ..).trans rfl) (by as_aux_lemma => kernel_rfl) (by as_aux_lemma => kernel_rfl) (by as_aux_lemma => kernel_rfl) (fun _ _ _ h => h) (Or.inl ⟨by rfl, ?hy117⟩) hHeld ?rest117
    case hy117 => (intro w hSw; (try dsimp only at hSw); go_simp; first | done | with_reducible rfl)
    (try simp only [Act.put, List.setIfInBounds_toArray, List.set_cons_zero, List.set_cons_succ])
    refine wpAnyH_take (i := 69) (v := ?v118) ((List.getElem?_toArray ..).trans rfl) (by as_aux_lemma => kernel_rfl) (by as_aux_lemma => kernel_rfl) (by as_aux_lemma => kernel_rfl) (fun _ _ _ h => h) (Or.inl ⟨by rfl, ?hy118⟩) hHeld ?rest118
    case hy118 => (intro w hSw; (try dsimp only at hSw); go_simp; first | done | with_reducible rfl)
    (try simp only [Act.put, List.setIfInBounds_toArray, List.set_cons_zero, List.set_cons_succ])
    refine wpAnyH_take (i := 70) (v := ?v119) ((List.getElem?_toArray ..).trans rfl) (by as_aux_lemma => kernel_rfl) (by as_aux_lemma => kernel_rfl) (by as_aux_lemma => kernel_rfl) (fun _ _ _ h => h) (Or.inl ⟨by rfl, ?hy119⟩) hHeld ?rest119
    case hy119 => (intro w hSw; (try dsimp only at hSw); go_simp; first | done | with_reducible rfl)
    (try simp only [Act.put, List.setIfInBounds_toArray, List.set_cons_zero, List.set_cons_succ])
    refine wpAnyH_take (i := 71) (v := ?v120) ((List.getElem?_toArray ..).trans rfl) (by as_aux_lemma => kernel_rfl) (by as_aux_lemma => kernel_rfl) (by as_aux_lemma => kernel_rfl) (fun _ _ _ h => h) (Or.inl ⟨by rfl, ?hy120⟩) hHeld ?rest120
    case hy120 => (intro w hSw; (try dsimp only at hSw); go_simp; first | done | with_reducible rfl)
    (try simp only [Act.put, List.setIfInBounds_toArray, List.set_cons_zero, List.set_cons_succ])
    refine wpAnyH_ready (rs := [67]) (by as_aux_lemma => kernel_rfl) (by simp) ?_
    refine AllReadyH.cons (o := _) ((List.getElem?_toArray ..).trans rfl) (fun K hK => ?_) AllReadyH.nil
    go_simp
    (first
        | (go_at_call 9; (with_reducible refine (c9 _).mono ?_); rintro e w2 ⟨rfl, hf⟩; have hff : Fr (fun _ => False) V w2 := Fr.trans (And.left (by assumption)) hf)
        | (go_at_call 10; (with_reducible refine (KR.out _).mono ?_); rintro e w3 ⟨rfl, hg⟩; have hf3 : Fr (fun _ => False) _ w3 := Fr.of_grown hg; have hff : Fr (fun _ => False) V w3 := Fr.trans (And.left (by assumption)) hf3; try (replace r0 := hf3.cell r0 id; replace r1 := hf3.cell r1 id; replace r2 := hf3.cell r2 id; replace r3 := hf3.cell r3 id; replace r4 := hf3.cell r4 id; replace r5 := hf3.cell r5 id; replace r6 := hf3.cell r6 id))
        | (go_at_call 12; (first | (with_reducible refine (KF.out _ _ (Fr.refl _ _)).mono ?_) | (with_reducible refine (KF.out _ _ hf3).mono ?_)); rintro e w4 ⟨rg, ro, rc, rfl, hf, r0, r1, r2, r3, r4, r5, r6⟩; have hff : Fr (fun _ => False) V w4 := (by first | exact Fr.trans hff hf | exact Fr.trans (And.left (by assumption)) hf | exact Fr.trans (fr_al hff _) hf | trace_state))
        | (go_at_call 11; (with_reducible refine (KQ.out _).mono ?_); rintro e w5 ⟨rfl, hg⟩; have hff : Fr (fun _ => False) V w5 := Fr.trans (And.left (by assumption)) (Fr.of_grown hg))
        | (go_at_call 13; (with_reducible refine (KC.out _).mono ?_); rintro e w6 ⟨rfl, rfl⟩)
        | (go_at_call 14; (with_reducible refine (KD.out _).mono ?_); rintro e w7 ⟨rfl, rfl⟩)
        | (go_at_call 15; (with_reducible refine (c15 _ _ n0 n1 _).mono ?_); rintro e w8 ⟨rfl, hg⟩; have hff : Fr (fun _ => False) V w8 := Fr.trans (And.left (by assumption)) (Fr.of_grown hg))
        | (go_at_call 16; (with_reducible refine (c16 _ _).mono ?_); rintro e w9 ⟨rfl, hg⟩; have hff : Fr (fun _ => False) V w9 := Fr.trans (And.left (by assumption)) (Fr.of_grown hg))
        | (go_at_call 17; (with_reducible refine (c17 _ _ _ _ _).mono ?_); rintro e w10 ⟨rfl, hg⟩; have hff : Fr (fun _ => False) V w10 := Fr.trans (And.left (by assumption)) (Fr.of_grown hg))
        | (go_at_call 18; (with_reducible refine (c18 _ _ _).mono ?_); rintro e w11 ⟨rfl, hg⟩; have hff : Fr (fun _ => False) V w11 := Fr.trans (And.left (by assumption)) (Fr.of_grown hg)))
    (try dsimp only)
    refine hK.out _ _ ?_ (fun hHeld2 => ?_)
    · (try dsimp only); (first | assumption | exact HKW.out _ (Fr.refl _ _) | exact HKW.out _ ((Fr.refl _ _).drewN 1) | exact HKW.out _ (by assumption) | exact HKW.out _ (fr_al (And.left (by assumption)) _))
    clear hK K hHeld
    have hHeld := hHeld2
    clear hHeld2
    (try simp only [Act.put, List.setIfInBounds_toArray, List.set_cons_zero, List.set_cons_succ])
    refine wpAnyH_take (i := 72) (v := ?v121) ((List.getElem?_toArray ..).trans rfl) (by as_aux_lemma => kernel_rfl) (by as_aux_lemma => kernel_rfl) (by as_aux_lemma => kernel_rfl) (fun _ _ _ h => h) (Or.inl ⟨by rfl, ?hy121⟩) hHeld ?rest121
    case hy121 => (intro w hSw; (try dsimp only at hSw); go_simp; first | done | with_reducible rfl)
    (try simp only [Act.put, List.setIfInBounds_toArray, List.set_cons_zero, List.set_cons_succ])
    refine wpAnyH_take (i := 73) (v := ?v122) ((List.getElem?_toArray ..).trans rfl) (by as_aux_lemma => kernel_rfl) (by as_aux_lemma => kernel_rfl) (by as_aux_lemma => kernel_rfl) (fun _ _ _ h => h) (Or.inl ⟨by rfl, ?hy122⟩) hHeld ?rest122
    case hy122 => (intro w hSw; (try dsimp only at hSw); go_simp; first | done | with_reducible rfl)
    (try simp only [Act.put, List.setIfInBounds_toArray, List.set_cons_zero, List.set_cons_succ])
    refine wpAnyH_take (i := 74) (v := ?v123) ((List.getElem?_toArray ..).trans rfl) (by as_aux_lemma => kernel_rfl) (by as_aux_lemma => kernel_rfl) (by as_aux_lemma => kernel_rfl) (fun _ _ _ h => h) (Or.inl ⟨by rfl, ?hy123⟩) hHeld ?rest123
    case hy123 => (intro w hSw; (try dsimp only at hSw); go_simp; first | done | with_reducible rfl)
    (try simp only [Act.put, List.setIfInBounds_toArray, List.set_cons_zero, List.set_cons_succ])
    refine wpAnyH_done (by as_aux_lemma => kernel_rfl) ?_ _
    refine NoPanic.normal ?_
    go_wp2
    go_ret
    exact ⟨rfl, F0.out.trans (FV.out.trans (And.left (by assumption)))⟩
end Go.Proofs.Ytfnlhammjallfaa.asmItems
