/-
  Stores (layer 3) of a machine that lies in a world; a register that is set.
-/
import Derived.Test.YtipfefkddnogjaaDevR
import Derived.Test.YtipfefkddnogjaaDevS
import Derived.Laws.DeepBits32
import Derived.Laws.BitsAll
namespace Go.Proofs.Ytipfefkddnogjaa
open Go.RowKit
set_option linter.unusedVariables false
set_option linter.unusedSimpArgs false
theorem even_of {x : Int} (h0 : 0 ≤ x) (h1 : x ≤ 4294967295) : bits .andNot .u32 x 1 = x - x % 2 := by
  obtain ⟨X, rfl⟩ : ∃ n : Nat, x = n := ⟨x.toNat, by omega⟩
  rw [u32_andNot _ _ (by omega) (by omega) (by omega) (by omega)]
  have e : (4294967295 - (1 : Int).toNat) = 4294967294 := by decide
  rw [Int.toNat_natCast, e, and_even X (by omega)]
  omega
theorem Okay.setW {base : Nat} {L : Lay} {lv : Value} {w : World} {s : MSt} (h : At base w L lv s) (hw : Wf base L lv) (r : Nat) (hr : r < 32) (v : Int) (v0 : 0 ≤ v) (v1 : v ≤ 4294967295) :
    Okay base L lv w (Ytipfefkddnogjaa.setW w L.b r v) { s with c := setR s.c r v } := by
  unfold Ytipfefkddnogjaa.setW setR
  by_cases h0 : r = 0
  · rw [if_pos h0, if_pos h0]; exact Okay.quiet h hw (Fr.refl _ _)
  · rw [if_neg h0, if_neg h0]
    have hk : kindAt r = .u32 := by unfold kindAt; rw [if_neg (by omega), if_neg (by omega)]
    have := Okay.setNum h hw r (.inl (by omega)) v v0 (fun _ => v1)
    rw [hk] at this
    exact this
theorem recCells_snoc (l : List (Int × Int)) (q v : Int) : recCells (l ++ [(q, v)]) = recCells l ++ [.int .u32 q, .int .u32 v] := by
  unfold recCells; simp
theorem At.setLog {base : Nat} {w : World} {L : Lay} {lv lv' : Value} {s : MSt} {q v : Int} (h : At base w L lv s) (hw : Wf base L lv) {w1 : World} (hf : Fr (fun k => lv.ownBlock = some k) w w1)
    (ho : w1.ownsRow base 66 2 lv' (s.log.length + 1) (recCells s.log ++ [.int .u32 q, .int .u32 v])) (hn : ∀ g, lv'.ownBlock = some g → lv.ownBlock = some g ∨ w.heap.size ≤ g) :
    Okay base L lv w (w1.setCell ⟨L.b, 38, none⟩ lv') { s with log := s.log ++ [(q, v)] } := by
  have nb : ¬ lv.ownBlock = some L.b := fun e => (hw.lb _ e).1 rfl
  have nd : ¬ lv.ownBlock = some L.db := fun e => (hw.lb _ e).2.1 rfl
  have nc : ¬ lv.ownBlock = some L.cb := fun e => (hw.lb _ e).2.2.1 rfl
  have ni : ∀ a, L.ia = some a → ¬ lv.ownBlock = some a.block := fun a ha e => (hw.lb _ e).2.2.2 a ha rfl
  have hx : ∀ o', o' ≠ 38 → (w1.setCell ⟨L.b, 38, none⟩ lv').cell? ⟨L.b, o', none⟩ = w1.cell? ⟨L.b, o', none⟩ := fun o' hne =>
    World.cell?_setCell_other _ _ _ _ (fun e => hne (by injection e with e1 e2; exact e2.symm))
  have hy : ∀ (b o' : Nat), b ≠ L.b → (w1.setCell ⟨L.b, 38, none⟩ lv').cell? ⟨b, o', none⟩ = w1.cell? ⟨b, o', none⟩ := fun b o' hne =>
    World.cell?_setCell_other _ _ _ _ (fun e => hne (by injection e with e1 e2; exact e1.symm))
  have lb : L.b < w.heap.size := World.block_lt_of_cell? w _ h.logv
  have lc : L.cb < w.heap.size ∧ L.db < w.heap.size := by
    constructor
    · exact World.block_lt_of_cell? w _ (h.insts 0 (by have := hw.cn; omega) 0 (by omega))
    · exact World.block_lt_of_cell? w _ (h.byte 0 (by have := hw.dn; omega))
  refine ⟨lv', ⟨fun o ho' => ?_, ?_, ?_, ?_, ?_, ?_, fun o ho' => ?_, fun k hk => ?_, fun k hk => ?_, fun k hk j hj => ?_, fun k hk => ?_, h.bw, h.bu, h.bd, ?_, fun a ha => ?_⟩, ?_, ?_, hn⟩
  · rw [hx o (by unfold isNum at ho'; omega)]; exact hf.cell (h.num o ho') nb
  · rw [hx 35 (by omega)]; exact hf.cell h.code nb
  · rw [hx 36 (by omega)]; exact hf.cell h.dat nb
  · rw [hx 37 (by omega)]; exact hf.cell h.inp nb
  · exact World.cell?_setCell_same _ _ _ (hf.cell h.logv nb)
  · show World.ownsRow _ _ _ _ _ (s.log ++ [(q, v)]).length (recCells (s.log ++ [(q, v)]))
    rw [recCells_snoc, List.length_append]
    refine (Fr.setCell (F := fun k => k = L.b) w1 ⟨L.b, 38, none⟩ _ rfl).owns ho (fun k hk e => ?_)
    subst e
    rcases hn _ hk with h1 | h1
    · exact nb h1
    · omega
  · refine (World.frozen?_setCell _ _ _ _).trans ?_
    have hc : ∃ v, w.cell? ⟨L.b, o, none⟩ = some v := by
      by_cases h1 : isNum o
      · exact ⟨_, h.num o h1⟩
      · have : o = 35 ∨ o = 36 ∨ o = 37 ∨ o = 38 := by unfold isNum at h1; omega
        rcases this with rfl | rfl | rfl | rfl
        · exact ⟨_, h.code⟩
        · exact ⟨_, h.dat⟩
        · exact ⟨_, h.inp⟩
        · exact ⟨_, h.logv⟩
    obtain ⟨v', hv⟩ := hc
    exact (hf.frozen hv nb).trans (h.free o ho')
  · rw [hy _ _ hw.db]; exact hf.cell (h.byte k hk) nd
  · refine (World.frozen?_setCell _ _ _ _).trans ?_
    exact (hf.frozen (h.byte k hk) nd).trans (h.dfree k hk)
  · rw [hy _ _ hw.cb]; exact hf.cell (h.insts k hk j hj) nc
  · obtain ⟨b, o, e, hc⟩ := h.inputs k hk
    exact ⟨b, o, e, by rw [hy _ _ (hw.ib ⟨b, o, none⟩ e).1]; exact hf.cell hc (ni ⟨b, o, none⟩ e)⟩
  · simpa [World.setCell] using Nat.le_trans h.bb hf.size
  · simpa [World.setCell] using Nat.lt_of_lt_of_le (h.ilt a ha) hf.size
  · refine ⟨hw.db, hw.cb, hw.cd, hw.ib, hw.dn, hw.cn, hw.inn, ?_, hw.insb, hw.ok⟩
    intro g hg
    rcases hn g hg with h1 | h1
    · exact hw.lb g h1
    · refine ⟨by omega, by omega, by omega, fun a ha e => ?_⟩
      have := h.ilt a ha
      omega
  · refine (hf.mono (G := Foot L lv) (fun k _ e => .inr (.inr e))).trans (Fr.setCell _ _ _ (.inl rfl))
theorem store_at {base : Nat} {L : Lay} {lv : Value} {s : MSt} {w : World} (h : At base w L lv s) (hw : Wf base L lv) (hl : s.log.length < 900000) (op a v : Int) (ho : 16 ≤ op ∧ op ≤ 18) (a0 : 0 ≤ a) (a1 : a ≤ 4294967295) (v0 : 0 ≤ v) (v1 : v ≤ 4294967295) :
    Calls Try.prog 86 #[.pointer (some ⟨L.b, 0, none⟩), .int .i64 op, .int .u32 a, .int .u32 v] w fun e w' => e = .returned (.bool (storeM L s op a v).isSome) ∧ Okay base L lv w w' ((storeM L s op a v).getD s) := by
  by_cases h0 : op = 18 ∧ a = 536870912
  · obtain ⟨rfl, rfl⟩ := h0
    have e : storeM L s 18 536870912 v = some { s with c := updN s.c 33 v } := by unfold storeM; rw [if_pos ⟨rfl, rfl⟩]
    rw [e]
    refine (c86_p L.b _ v (fun w' => Okay base L lv w w' { s with c := updN s.c 33 v }) w (Lib.hid ((c95_seq L.b v _ w (h.num 33 (.inl (by decide))) (h.free 33 (by decide))).mono ?_)))
    rintro e w' ⟨rfl, rfl⟩
    exact ⟨rfl, Okay.setNum h hw 33 (.inl (by decide)) v v0 (fun _ => v1)⟩
  by_cases h1 : op = 18 ∧ a = 536870916
  · obtain ⟨rfl, rfl⟩ := h1
    have e : storeM L s 18 536870916 v = some { s with log := s.log ++ [(s.c 33, v)] } := by unfold storeM; rw [if_neg (by omega), if_pos ⟨rfl, rfl⟩]
    rw [e]
    refine (c86_p L.b _ v (fun w' => Okay base L lv w w' { s with log := s.log ++ [(s.c 33, v)] }) w (Lib.hid ((c95_out L.b v (s.c 33) lv base s.log.length (recCells s.log) w h.logv (h.num 33 (.inl (by decide))) (h.free 38 (by decide)) h.own h.bb (by omega) (fun e => (hw.lb _ e).1 rfl)).mono ?_)))
    rintro e w' ⟨rfl, gg, cap, w1, j, hown, hf, hg, rfl⟩
    exact ⟨rfl, (h.setLog hw hf hown (fun g e => by
      have : gg = g := by simpa [Value.ownBlock] using e
      subst this; exact hg)).drewN j⟩
  by_cases h2 : op = 18 ∧ a = 536870920
  · obtain ⟨rfl, rfl⟩ := h2
    have e : storeM L s 18 536870920 v = some { s with c := updN s.c 34 v } := by unfold storeM; rw [if_neg (by omega), if_neg (by omega), if_pos ⟨rfl, rfl⟩]
    rw [e]
    refine (c86_p L.b _ v (fun w' => Okay base L lv w w' { s with c := updN s.c 34 v }) w (Lib.hid ((c95_index L.b v _ w (h.num 34 (.inl (by decide))) (h.free 34 (by decide))).mono ?_)))
    rintro e w' ⟨rfl, rfl⟩
    exact ⟨rfl, Okay.setNum h hw 34 (.inl (by decide)) v v0 (fun _ => v1)⟩
  by_cases h3 : op = 18 ∧ a = 536870928
  · obtain ⟨rfl, rfl⟩ := h3
    have e : storeM L s 18 536870928 v = some { s with c := updN (updN s.c 40 1) 41 v } := by unfold storeM; rw [if_neg (by omega), if_neg (by omega), if_neg (by omega), if_pos ⟨rfl, rfl⟩]
    rw [e]
    refine (c86_p L.b _ v (fun w' => Okay base L lv w w' { s with c := updN (updN s.c 40 1) 41 v }) w (Lib.hid ((c95_halt L.b v _ _ w (h.num 40 (.inr (by decide))) (h.free 40 (by decide)) (h.num 41 (.inr (by decide))) (h.free 41 (by decide))).mono ?_)))
    rintro e w' ⟨rfl, rfl⟩
    exact ⟨rfl, (Okay.setNum h hw 40 (.inr (by decide)) 1 (by decide) (fun e => by cases e)).trans fun _ a f => Okay.setNum a f 41 (.inr (by decide)) v v0 (fun _ => v1)⟩
  have e : storeM L s op a v = if placeF L.dn a (sizeF op) = true then some { s with data := putM s.data (a - 268435456).toNat (sizeF op) v } else none := by
    unfold storeM; rw [if_neg h0, if_neg h1, if_neg h2, if_neg h3]
  have hp : (fun w' => Okay base L lv w w' (if placeF L.dn a (sizeF op) = true then { s with data := putM s.data (a - 268435456).toNat (sizeF op) v } else s)) = fun w' => Okay base L lv w w' ((storeM L s op a v).getD s) := by
    funext w'; rw [e]; cases placeF L.dn a (sizeF op) <;> rfl
  have hq : (storeM L s op a v).isSome = placeF L.dn a (sizeF op) := by rw [e]; cases placeF L.dn a (sizeF op) <;> rfl
  rw [hq]
  have hz : sizeF op = 1 ∨ sizeF op = 2 ∨ sizeF op = 4 := by
    have : op = 16 ∨ op = 17 ∨ op = 18 := by omega
    rcases this with rfl | rfl | rfl <;> decide
  have hW := write_at h hw a (sizeF op) v hz a0 a1 v0 v1
  have : op = 16 ∨ op = 17 ∨ op = 18 := by omega
  rcases this with rfl | rfl | rfl
  · refine c86_b L.b a v _ (fun w' => Okay base L lv w w' ((storeM L s 16 a v).getD s)) w (Lib.hid (hW.mono ?_))
    rintro e w' ⟨rfl, ho⟩
    exact ⟨rfl, (congrFun hp w').mp ho⟩
  · refine c86_h L.b a v _ (fun w' => Okay base L lv w w' ((storeM L s 17 a v).getD s)) w (Lib.hid (hW.mono ?_))
    rintro e w' ⟨rfl, ho⟩
    exact ⟨rfl, (congrFun hp w').mp ho⟩
  · refine c86_w L.b a v _ (fun w' => Okay base L lv w w' ((storeM L s 18 a v).getD s)) w (by rw [beq_eq_false_iff_ne]; omega) (by rw [beq_eq_false_iff_ne]; omega) (by rw [beq_eq_false_iff_ne]; omega) (by rw [beq_eq_false_iff_ne]; omega) (Lib.hid (hW.mono ?_))
    rintro e w' ⟨rfl, ho⟩
    exact ⟨rfl, (congrFun hp w').mp ho⟩
end Go.Proofs.Ytipfefkddnogjaa
