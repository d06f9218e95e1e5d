/-
  Loads and writes (layer 3) of a machine that lies in a world. Stores (layer 3) of a machine that lies in a world; a register that is set. The contracts of State, Steps, Pc, Exit, skip, awake and fetch (layer 3). The contract of fetch (layer 3). The contract of fetch where there is an instruction (layer 3).
-/
import Derived.Test.YthhahfggbjegmaaGreatQDevP
import Derived.Test.YthhahfggbjegmaaGreatQDevC
import Derived.Test.YthhahfggbjegmaaGreatQPiece
import Derived.Test.YthhahfggbjegmaaGreatQDevS
import Derived.Laws.DeepBits32
import Derived.Laws.BitsAll
import Derived.Outline
import Derived.BigRegion
namespace Go.Proofs.YthhahfggbjegmaaGreat
open Go.RowKit
set_option linter.unusedVariables false
set_option linter.unusedSimpArgs false
theorem place_in {n : Nat} {a s : Int} (hs : s = 1 ∨ s = 2 ∨ s = 4) (h : placeF n a s = true) : ∃ k : Nat, a = 268435456 + k ∧ (a - 268435456).toNat = k ∧ (k : Int) + s ≤ n := by
  unfold placeF at h
  split at h
  · cases h
  split at h
  · cases h
  exact ⟨(a - 268435456).toNat, by omega, rfl, by omega⟩
theorem load_at {base : Nat} {L : Lay} {lv : Value} {s : MSt} {w0 : World} (h0 : At base w0 L lv s) (hw : Wf base L lv) (op a : Int) (ho : 11 ≤ op ∧ op ≤ 15) (a0 : 0 ≤ a) (a1 : a ≤ 4294967295) :
    ∃ (v : Int) (ok : Bool), 0 ≤ v ∧ v ≤ 4294967295 ∧ loadM L s op a = (if ok = true then some v else none) ∧
      ∀ w, At base w L lv s → Calls Tryz.prog 57 #[.pointer (some ⟨L.b, 0, none⟩), .int .i64 op, .int .u32 a] w fun e w' => e = .returned (.tuple #[.int .u32 v, .bool ok]) ∧ Fr (fun _ => False) w w' := by
  have b34 := h0.bw 34 (.inl (by decide))
  have u34 := h0.bu 34 (.inl (by decide)) rfl
  have hin := hw.inn
  by_cases hp : op = 13 ∧ a = 536870924
  · obtain ⟨rfl, rfl⟩ := hp
    by_cases hi : s.c 34 < (L.ins.length : Int)
    · have hk : (s.c 34).toNat < L.ins.length := by omega
      have hb := hw.insb _ hk
      refine ⟨inputM L s, true, ?_, ?_, ?_, ?_⟩
      · unfold inputM; rw [if_pos hi]; exact hb.1
      · unfold inputM; rw [if_pos hi]; exact hb.2
      · unfold loadM; rw [if_pos ⟨rfl, rfl⟩]; rfl
      · intro w h
        have h34 := h.num 34 (.inl (by decide))
        obtain ⟨ib, io, e, hc⟩ := h.inputs _ hk
        have hd := h.inp
        rw [e] at hd
        have hx : w.cell? ⟨L.b, 34, none⟩ = some (.int .u32 ((s.c 34).toNat : Int)) := by rw [h34]; congr 2; omega
        have hI := dv93_in L.b ib io L.ins.length L.ic (s.c 34).toNat (L.ins.getD (s.c 34).toNat 0) (by omega) (by omega) hk w hd hx hc
        refine (dv85_in (inputM L s) L.b w (Lib.hid (hI.mono ?_))).mono ?_
        · rintro e w' ⟨rfl, k, rfl⟩
          exact ⟨by unfold inputM; rw [if_pos hi], k, rfl⟩
        · rintro e w' ⟨rfl, k, rfl⟩
          exact ⟨rfl, (Fr.refl _ _).drewN k⟩
    · refine ⟨0, true, by omega, by omega, ?_, ?_⟩
      · unfold loadM inputM; rw [if_pos ⟨rfl, rfl⟩, if_neg hi]; rfl
      · intro w h
        have h34 := h.num 34 (.inl (by decide))
        refine (dv85_in 0 L.b w (Lib.hid (dv93_out L.b L.ia L.ins.length L.ic (s.c 34) b34 u34 (by omega) (by omega) w h.inp h34))).mono ?_
        rintro e w' ⟨rfl, k, rfl⟩
        exact ⟨rfl, (Fr.refl _ _).drewN k⟩
  · have hq : op = 13 → (a == 536870924) = false := fun e => by
      rw [beq_eq_false_iff_ne]; intro e2; exact hp ⟨e, e2⟩
    have hdn := hw.dn
    have hz : sizeF op = 1 ∨ sizeF op = 2 ∨ sizeF op = 4 := by
      have : op = 11 ∨ op = 12 ∨ op = 13 ∨ op = 14 ∨ op = 15 := by omega
      rcases this with rfl | rfl | rfl | rfl | rfl <;> decide
    cases hpl : placeF L.dn a (sizeF op) with
    | false =>
      refine ⟨loadF op 0, false, ?_, ?_, ?_, ?_⟩
      · unfold loadF; split
        · exact (signF_in 8 (by omega)).1
        · split
          · exact (signF_in 16 (by omega)).1
          · omega
      · unfold loadF; split
        · exact (signF_in 8 (by omega)).2
        · split
          · exact (signF_in 16 (by omega)).2
          · omega
      · unfold loadM; rw [if_neg hp, hpl]; simp
      · intro w h
        refine (dv85 op a 0 (sizeF op) rfl false L.b ho a0 a1 (by omega) (by omega) w hq (Lib.hid (dv92_out L.b _ L.dn L.dc a _ a0 a1 hz (by omega) w h.dat hpl))).mono ?_
        rintro e w' ⟨rfl, hg⟩
        exact ⟨rfl, Fr.of_grown hg⟩
    | true =>
      obtain ⟨k, rfl, hk, hks⟩ := place_in hz hpl
      have hR : ∃ v, v = readM s k (sizeF op) ∧ 0 ≤ v ∧ v ≤ 4294967295 ∧ ∀ w, At base w L lv s → Calls Tryz.prog 89 #[.pointer (some ⟨L.b, 0, none⟩), .int .u32 (268435456 + k), .int .i64 (sizeF op)] w fun e w' => e = .returned (.tuple #[.int .u32 v, .bool true]) ∧ ∃ k, w' = w.drewN k := by
        rcases hz with hz | hz | hz
        · rw [hz] at hks hpl ⊢
          have hk0 : k < L.dn := by omega
          exact ⟨_, rfl, (or_in _ _).1, (or_in _ _).2, fun w h => dv92_1 L.b L.db L.dof L.dn L.dc k _ (h.bd k hk0).1 (h.bd k hk0).2 (by omega) w h.dat hpl (by omega) (h.byte k hk0)⟩
        · rw [hz] at hks hpl ⊢
          have hk0 : k < L.dn := by omega
          have hk1 : k + 1 < L.dn := by omega
          exact ⟨_, rfl, (or_in _ _).1, (or_in _ _).2, fun w h => dv92_2 L.b L.db L.dof L.dn L.dc k _ _ (h.bd k hk0).1 (h.bd k hk0).2 (h.bd (k+1) hk1).1 (h.bd (k+1) hk1).2 (by omega) w h.dat hpl (by omega) (h.byte k hk0) (h.byte (k + 1) hk1)⟩
        · rw [hz] at hks hpl ⊢
          have hk0 : k < L.dn := by omega
          have hk1 : k + 1 < L.dn := by omega
          have hk2 : k + 2 < L.dn := by omega
          have hk3 : k + 3 < L.dn := by omega
          exact ⟨_, rfl, (or_in _ _).1, (or_in _ _).2, fun w h => dv92_4 L.b L.db L.dof L.dn L.dc k _ _ _ _ (h.bd k hk0).1 (h.bd k hk0).2 (h.bd (k+1) hk1).1 (h.bd (k+1) hk1).2 (h.bd (k+2) hk2).1 (h.bd (k+2) hk2).2 (h.bd (k+3) hk3).1 (h.bd (k+3) hk3).2 (by omega) w h.dat hpl (by omega) (h.byte k hk0) (h.byte (k + 1) hk1) (h.byte (k + 2) hk2) (h.byte (k + 3) hk3)⟩
      obtain ⟨v, hv, v0, v1, hC⟩ := hR
      refine ⟨loadF op v, true, ?_, ?_, ?_, ?_⟩
      · unfold loadF; split
        · exact (signF_in 8 ⟨v0, v1⟩).1
        · split
          · exact (signF_in 16 ⟨v0, v1⟩).1
          · exact v0
      · unfold loadF; split
        · exact (signF_in 8 ⟨v0, v1⟩).2
        · split
          · exact (signF_in 16 ⟨v0, v1⟩).2
          · exact v1
      · unfold loadM; rw [if_neg hp, hpl, hk, hv, if_pos rfl]
      · intro w h
        refine (dv85 op _ v (sizeF op) rfl true L.b ho a0 a1 v0 v1 w hq (Lib.hid (hC w h))).mono ?_
        rintro e w' ⟨rfl, hg⟩
        exact ⟨rfl, Fr.of_grown hg⟩
theorem put1 (d : Nat → Int) (k : Nat) (v : Int) : putM d k 1 v = updN d k (v % 256) := by unfold putM; rw [if_pos rfl]
theorem put2 (d : Nat → Int) (k : Nat) (v : Int) : putM d k 2 v = updN (updN d k (v % 256)) (k + 1) (v / 256 % 256) := by unfold putM; rw [if_neg (by decide), if_pos rfl]
theorem put4 (d : Nat → Int) (k : Nat) (v : Int) : putM d k 4 v = updN (updN (updN (updN d k (v % 256)) (k + 1) (v / 256 % 256)) (k + 2) (v / 65536 % 256)) (k + 3) (v / 16777216) := by unfold putM; rw [if_neg (by decide), if_neg (by decide)]
theorem write_at {base : Nat} {L : Lay} {lv : Value} {s : MSt} {w : World} (h : At base w L lv s) (hw : Wf base L lv) (a n v : Int) (hn : n = 1 ∨ n = 2 ∨ n = 4) (a0 : 0 ≤ a) (a1 : a ≤ 4294967295) (v0 : 0 ≤ v) (v1 : v ≤ 4294967295) :
    Calls Tryz.prog 91 #[.pointer (some ⟨L.b, 0, none⟩), .int .u32 a, .int .i64 n, .int .u32 v] w fun e w' => e = .returned (.bool (placeF L.dn a n)) ∧
      Okay base L lv w w' (if placeF L.dn a n = true then { s with data := putM s.data (a - 268435456).toNat n v } else s) := by
  have hdn := hw.dn
  cases hpl : placeF L.dn a n with
  | false =>
    refine (dv94_out L.b _ L.dn L.dc a n v a0 a1 hn (by omega) w h.dat hpl).mono ?_
    rintro e w' ⟨rfl, k, rfl⟩
    exact ⟨rfl, Okay.quiet h hw ((Fr.refl _ _).drewN k)⟩
  | true =>
    rw [if_pos rfl]
    obtain ⟨k, rfl, hk, hks⟩ := place_in hn hpl
    rw [hk]
    have hk0 : k < L.dn := by omega
    rcases hn with rfl | rfl | rfl
    · rw [put1]
      refine (dv94_1 L.b L.db L.dof L.dn L.dc k v _ v0 v1 (by omega) hw.db w h.dat hpl (by omega) (h.dfree k hk0) (h.byte k hk0)).mono ?_
      rintro e w' ⟨rfl, j, rfl⟩
      exact ⟨rfl, (Okay.setByte h hw k hk0 _ (by omega)).drewN j⟩
    · rw [put2]
      have hk1 : k + 1 < L.dn := by omega
      refine (dv94_2 L.b L.db L.dof L.dn L.dc k v _ _ v0 v1 (by omega) hw.db w h.dat hpl (by omega) (h.dfree k hk0) (h.byte k hk0) (h.dfree (k+1) hk1) (h.byte (k+1) hk1)).mono ?_
      rintro e w' ⟨rfl, j, rfl⟩
      exact ⟨rfl, ((Okay.setByte h hw k hk0 _ (by omega)).trans fun _ a f => Okay.setByte a f (k + 1) hk1 _ (by omega)).drewN j⟩
    · rw [put4]
      have hk1 : k + 1 < L.dn := by omega
      have hk2 : k + 2 < L.dn := by omega
      have hk3 : k + 3 < L.dn := by omega
      refine (dv94_4 L.b L.db L.dof L.dn L.dc k v _ _ _ _ v0 v1 (by omega) hw.db w h.dat hpl (by omega) (h.dfree k hk0) (h.byte k hk0) (h.dfree (k+1) hk1) (h.byte (k+1) hk1) (h.dfree (k+2) hk2) (h.byte (k+2) hk2) (h.dfree (k+3) hk3) (h.byte (k+3) hk3)).mono ?_
      rintro e w' ⟨rfl, j, rfl⟩
      exact ⟨rfl, ((((Okay.setByte h hw k hk0 _ (by omega)).trans fun _ a f => Okay.setByte a f (k + 1) hk1 _ (by omega)).trans fun _ a f => Okay.setByte a f (k + 2) hk2 _ (by omega)).trans fun _ a f => Okay.setByte a f (k + 3) hk3 _ (by omega)).drewN j⟩
theorem even_of {x : Int} (h0 : 0 ≤ x) (h1 : x ≤ 4294967295) : bits .andNot .u32 x 1 = x - x % 2 := by
  obtain ⟨X, rfl⟩ : ∃ n : Nat, x = n := ⟨x.toNat, by omega⟩
  rw [u32_andNot _ _ (by omega) (by omega) (by omega) (by omega)]
  have e : (4294967295 - (1 : Int).toNat) = 4294967294 := by decide
  rw [Int.toNat_natCast, e, and_even X (by omega)]
  omega
theorem Okay.setW {base : Nat} {L : Lay} {lv : Value} {w : World} {s : MSt} (h : At base w L lv s) (hw : Wf base L lv) (r : Nat) (hr : r < 32) (v : Int) (v0 : 0 ≤ v) (v1 : v ≤ 4294967295) :
    Okay base L lv w (YthhahfggbjegmaaGreat.setW w L.b r v) { s with c := setR s.c r v } := by
  unfold YthhahfggbjegmaaGreat.setW setR
  by_cases h0 : r = 0
  · rw [if_pos h0, if_pos h0]; exact Okay.quiet h hw (Fr.refl _ _)
  · rw [if_neg h0, if_neg h0]
    have hk : kindAt r = .u32 := by unfold kindAt; rw [if_neg (by omega), if_neg (by omega)]
    have := Okay.setNum h hw r (.inl (by omega)) v v0 (fun _ => v1)
    rw [hk] at this
    exact this
theorem recCells_snoc (l : List (Int × Int)) (q v : Int) : recCells (l ++ [(q, v)]) = recCells l ++ [.int .u32 q, .int .u32 v] := by
  unfold recCells; simp
theorem At.setLog {base : Nat} {w : World} {L : Lay} {lv lv' : Value} {s : MSt} {q v : Int} (h : At base w L lv s) (hw : Wf base L lv) {w1 : World} (hf : Fr (fun k => lv.ownBlock = some k) w w1)
    (ho : w1.ownsRow base 63 2 lv' (s.log.length + 1) (recCells s.log ++ [.int .u32 q, .int .u32 v])) (hn : ∀ g, lv'.ownBlock = some g → lv.ownBlock = some g ∨ w.heap.size ≤ g) :
    Okay base L lv w (w1.setCell ⟨L.b, 38, none⟩ lv') { s with log := s.log ++ [(q, v)] } := by
  have nb : ¬ lv.ownBlock = some L.b := fun e => (hw.lb _ e).1 rfl
  have nd : ¬ lv.ownBlock = some L.db := fun e => (hw.lb _ e).2.1 rfl
  have nc : ¬ lv.ownBlock = some L.cb := fun e => (hw.lb _ e).2.2.1 rfl
  have ni : ∀ a, L.ia = some a → ¬ lv.ownBlock = some a.block := fun a ha e => (hw.lb _ e).2.2.2 a ha rfl
  have hx : ∀ o', o' ≠ 38 → (w1.setCell ⟨L.b, 38, none⟩ lv').cell? ⟨L.b, o', none⟩ = w1.cell? ⟨L.b, o', none⟩ := fun o' hne =>
    World.cell?_setCell_other _ _ _ _ (fun e => hne (by injection e with e1 e2; exact e2.symm))
  have hy : ∀ (b o' : Nat), b ≠ L.b → (w1.setCell ⟨L.b, 38, none⟩ lv').cell? ⟨b, o', none⟩ = w1.cell? ⟨b, o', none⟩ := fun b o' hne =>
    World.cell?_setCell_other _ _ _ _ (fun e => hne (by injection e with e1 e2; exact e1.symm))
  have lb : L.b < w.heap.size := World.block_lt_of_cell? w _ h.logv
  have lc : L.cb < w.heap.size ∧ L.db < w.heap.size := by
    constructor
    · exact World.block_lt_of_cell? w _ (h.insts 0 (by have := hw.cn; omega) 0 (by omega))
    · exact World.block_lt_of_cell? w _ (h.byte 0 (by have := hw.dn; omega))
  refine ⟨lv', ⟨fun o ho' => ?_, ?_, ?_, ?_, ?_, ?_, fun o ho' => ?_, fun k hk => ?_, fun k hk => ?_, fun k hk j hj => ?_, fun k hk => ?_, h.bw, h.bu, h.bd, ?_, fun a ha => ?_⟩, ?_, ?_, hn⟩
  · rw [hx o (by unfold isNum at ho'; omega)]; exact hf.cell (h.num o ho') nb
  · rw [hx 35 (by omega)]; exact hf.cell h.code nb
  · rw [hx 36 (by omega)]; exact hf.cell h.dat nb
  · rw [hx 37 (by omega)]; exact hf.cell h.inp nb
  · exact World.cell?_setCell_same _ _ _ (hf.cell h.logv nb)
  · show World.ownsRow _ _ _ _ _ (s.log ++ [(q, v)]).length (recCells (s.log ++ [(q, v)]))
    rw [recCells_snoc, List.length_append]
    refine (Fr.setCell (F := fun k => k = L.b) w1 ⟨L.b, 38, none⟩ _ rfl).owns ho (fun k hk e => ?_)
    subst e
    rcases hn _ hk with h1 | h1
    · exact nb h1
    · omega
  · refine (World.frozen?_setCell _ _ _ _).trans ?_
    have hc : ∃ v, w.cell? ⟨L.b, o, none⟩ = some v := by
      by_cases h1 : isNum o
      · exact ⟨_, h.num o h1⟩
      · have : o = 35 ∨ o = 36 ∨ o = 37 ∨ o = 38 := by unfold isNum at h1; omega
        rcases this with rfl | rfl | rfl | rfl
        · exact ⟨_, h.code⟩
        · exact ⟨_, h.dat⟩
        · exact ⟨_, h.inp⟩
        · exact ⟨_, h.logv⟩
    obtain ⟨v', hv⟩ := hc
    exact (hf.frozen hv nb).trans (h.free o ho')
  · rw [hy _ _ hw.db]; exact hf.cell (h.byte k hk) nd
  · refine (World.frozen?_setCell _ _ _ _).trans ?_
    exact (hf.frozen (h.byte k hk) nd).trans (h.dfree k hk)
  · rw [hy _ _ hw.cb]; exact hf.cell (h.insts k hk j hj) nc
  · obtain ⟨b, o, e, hc⟩ := h.inputs k hk
    exact ⟨b, o, e, by rw [hy _ _ (hw.ib ⟨b, o, none⟩ e).1]; exact hf.cell hc (ni ⟨b, o, none⟩ e)⟩
  · simpa [World.setCell] using Nat.le_trans h.bb hf.size
  · simpa [World.setCell] using Nat.lt_of_lt_of_le (h.ilt a ha) hf.size
  · refine ⟨hw.db, hw.cb, hw.cd, hw.ib, hw.dn, hw.cn, hw.inn, ?_, hw.insb, hw.ok⟩
    intro g hg
    rcases hn g hg with h1 | h1
    · exact hw.lb g h1
    · refine ⟨by omega, by omega, by omega, fun a ha e => ?_⟩
      have := h.ilt a ha
      omega
  · refine (hf.mono (G := Foot L lv) (fun k _ e => .inr (.inr e))).trans (Fr.setCell _ _ _ (.inl rfl))
theorem store_at {base : Nat} {L : Lay} {lv : Value} {s : MSt} {w : World} (h : At base w L lv s) (hw : Wf base L lv) (hl : s.log.length < 900000) (op a v : Int) (ho : 16 ≤ op ∧ op ≤ 18) (a0 : 0 ≤ a) (a1 : a ≤ 4294967295) (v0 : 0 ≤ v) (v1 : v ≤ 4294967295) :
    Calls Tryz.prog 58 #[.pointer (some ⟨L.b, 0, none⟩), .int .i64 op, .int .u32 a, .int .u32 v] w fun e w' => e = .returned (.bool (storeM L s op a v).isSome) ∧ Okay base L lv w w' ((storeM L s op a v).getD s) := by
  by_cases h0 : op = 18 ∧ a = 536870912
  · obtain ⟨rfl, rfl⟩ := h0
    have e : storeM L s 18 536870912 v = some { s with c := updN s.c 33 v } := by unfold storeM; rw [if_pos ⟨rfl, rfl⟩]
    rw [e]
    refine (dv86_p L.b _ v (fun w' => Okay base L lv w w' { s with c := updN s.c 33 v }) w (Lib.hid ((dv95_seq L.b v _ w (h.num 33 (.inl (by decide))) (h.free 33 (by decide))).mono ?_)))
    rintro e w' ⟨rfl, rfl⟩
    exact ⟨rfl, Okay.setNum h hw 33 (.inl (by decide)) v v0 (fun _ => v1)⟩
  by_cases h1 : op = 18 ∧ a = 536870916
  · obtain ⟨rfl, rfl⟩ := h1
    have e : storeM L s 18 536870916 v = some { s with log := s.log ++ [(s.c 33, v)] } := by unfold storeM; rw [if_neg (by omega), if_pos ⟨rfl, rfl⟩]
    rw [e]
    refine (dv86_p L.b _ v (fun w' => Okay base L lv w w' { s with log := s.log ++ [(s.c 33, v)] }) w (Lib.hid ((dv95_out L.b v (s.c 33) lv base s.log.length (recCells s.log) w h.logv (h.num 33 (.inl (by decide))) (h.free 38 (by decide)) h.own h.bb (by omega) (fun e => (hw.lb _ e).1 rfl)).mono ?_)))
    rintro e w' ⟨rfl, gg, cap, w1, j, hown, hf, hg, rfl⟩
    exact ⟨rfl, (h.setLog hw hf hown (fun g e => by
      have : gg = g := by simpa [Value.ownBlock] using e
      subst this; exact hg)).drewN j⟩
  by_cases h2 : op = 18 ∧ a = 536870920
  · obtain ⟨rfl, rfl⟩ := h2
    have e : storeM L s 18 536870920 v = some { s with c := updN s.c 34 v } := by unfold storeM; rw [if_neg (by omega), if_neg (by omega), if_pos ⟨rfl, rfl⟩]
    rw [e]
    refine (dv86_p L.b _ v (fun w' => Okay base L lv w w' { s with c := updN s.c 34 v }) w (Lib.hid ((dv95_index L.b v _ w (h.num 34 (.inl (by decide))) (h.free 34 (by decide))).mono ?_)))
    rintro e w' ⟨rfl, rfl⟩
    exact ⟨rfl, Okay.setNum h hw 34 (.inl (by decide)) v v0 (fun _ => v1)⟩
  by_cases h3 : op = 18 ∧ a = 536870928
  · obtain ⟨rfl, rfl⟩ := h3
    have e : storeM L s 18 536870928 v = some { s with c := updN (updN s.c 40 1) 41 v } := by unfold storeM; rw [if_neg (by omega), if_neg (by omega), if_neg (by omega), if_pos ⟨rfl, rfl⟩]
    rw [e]
    refine (dv86_p L.b _ v (fun w' => Okay base L lv w w' { s with c := updN (updN s.c 40 1) 41 v }) w (Lib.hid ((dv95_halt L.b v _ _ w (h.num 40 (.inr (by decide))) (h.free 40 (by decide)) (h.num 41 (.inr (by decide))) (h.free 41 (by decide))).mono ?_)))
    rintro e w' ⟨rfl, rfl⟩
    exact ⟨rfl, (Okay.setNum h hw 40 (.inr (by decide)) 1 (by decide) (fun e => by cases e)).trans fun _ a f => Okay.setNum a f 41 (.inr (by decide)) v v0 (fun _ => v1)⟩
  have e : storeM L s op a v = if placeF L.dn a (sizeF op) = true then some { s with data := putM s.data (a - 268435456).toNat (sizeF op) v } else none := by
    unfold storeM; rw [if_neg h0, if_neg h1, if_neg h2, if_neg h3]
  have hp : (fun w' => Okay base L lv w w' (if placeF L.dn a (sizeF op) = true then { s with data := putM s.data (a - 268435456).toNat (sizeF op) v } else s)) = fun w' => Okay base L lv w w' ((storeM L s op a v).getD s) := by
    funext w'; rw [e]; cases placeF L.dn a (sizeF op) <;> rfl
  have hq : (storeM L s op a v).isSome = placeF L.dn a (sizeF op) := by rw [e]; cases placeF L.dn a (sizeF op) <;> rfl
  rw [hq]
  have hz : sizeF op = 1 ∨ sizeF op = 2 ∨ sizeF op = 4 := by
    have : op = 16 ∨ op = 17 ∨ op = 18 := by omega
    rcases this with rfl | rfl | rfl <;> decide
  have hW := write_at h hw a (sizeF op) v hz a0 a1 v0 v1
  have : op = 16 ∨ op = 17 ∨ op = 18 := by omega
  rcases this with rfl | rfl | rfl
  · refine dv86_b L.b a v _ (fun w' => Okay base L lv w w' ((storeM L s 16 a v).getD s)) w (Lib.hid (hW.mono ?_))
    rintro e w' ⟨rfl, ho⟩
    exact ⟨rfl, (congrFun hp w').mp ho⟩
  · refine dv86_h L.b a v _ (fun w' => Okay base L lv w w' ((storeM L s 17 a v).getD s)) w (Lib.hid (hW.mono ?_))
    rintro e w' ⟨rfl, ho⟩
    exact ⟨rfl, (congrFun hp w').mp ho⟩
  · refine dv86_w L.b a v _ (fun w' => Okay base L lv w w' ((storeM L s 18 a v).getD s)) w (by rw [beq_eq_false_iff_ne]; omega) (by rw [beq_eq_false_iff_ne]; omega) (by rw [beq_eq_false_iff_ne]; omega) (by rw [beq_eq_false_iff_ne]; omega) (Lib.hid (hW.mono ?_))
    rintro e w' ⟨rfl, ho⟩
    exact ⟨rfl, (congrFun hp w').mp ho⟩
theorem dv22 (b : Nat) (x : Int) (w : World) (hx : w.cell? ⟨b, 40, none⟩ = some (.int .i64 x)) :
    Calls Tryz.prog 29 #[.pointer (some ⟨b, 0, none⟩)] w fun e w' => e = .returned (.int .i64 x) ∧ w' = w := by
  go_enter Tryz.func29, Tryz.ntmps29
  go_wp2
  go_ret
  exact ⟨rfl, rfl⟩
theorem dv23 (b : Nat) (x : Int) (w : World) (hx : w.cell? ⟨b, 39, none⟩ = some (.int .i64 x)) :
    Calls Tryz.prog 13 #[.pointer (some ⟨b, 0, none⟩)] w fun e w' => e = .returned (.int .i64 x) ∧ w' = w := by
  go_enter Tryz.func13, Tryz.ntmps13
  go_wp2
  go_ret
  exact ⟨rfl, rfl⟩
theorem dv24 (b : Nat) (x : Int) (w : World) (hx : w.cell? ⟨b, 32, none⟩ = some (.int .u32 x)) :
    Calls Tryz.prog 22 #[.pointer (some ⟨b, 0, none⟩)] w fun e w' => e = .returned (.int .u32 x) ∧ w' = w := by
  go_enter Tryz.func22, Tryz.ntmps22
  go_wp2
  go_ret
  exact ⟨rfl, rfl⟩
theorem dv27 (b : Nat) (x : Int) (w : World) (hx : w.cell? ⟨b, 41, none⟩ = some (.int .u32 x)) :
    Calls Tryz.prog 30 #[.pointer (some ⟨b, 0, none⟩)] w fun e w' => e = .returned (.int .u32 x) ∧ w' = w := by
  go_enter Tryz.func30, Tryz.ntmps30
  go_wp2
  go_ret
  exact ⟨rfl, rfl⟩
theorem dv26 (b : Nat) (r : Nat) (hr : r < 32) (x : Int) (w : World) (hx : w.cell? ⟨b, r, none⟩ = some (.int .u32 x)) :
    Calls Tryz.prog 21 #[.pointer (some ⟨b, 0, none⟩), .int .i64 r] w fun e w' => e = .returned (.int .u32 x) ∧ w' = w := by
  go_enter Tryz.func21, Tryz.ntmps21
  go_wp2
  go_ret
  exact ⟨rfl, rfl⟩
theorem dv79_odd (b : Nat) (d : Option Addr) (n c : Nat) (p : Int) (p0 : 0 ≤ p) (p1 : p ≤ 4294967295) (w : World) (hx : w.cell? ⟨b, 32, none⟩ = some (.int .u32 p))
    (hd : w.cell? ⟨b, 35, none⟩ = some (.slice d n c)) (ho : (p % 4 == 0) = false) :
    Calls Tryz.prog 35 #[.pointer (some ⟨b, 0, none⟩)] w fun e w' => e = .returned (.agg #[.int .i64 0, .int .i64 0, .int .i64 0, .int .i64 0, .int .i64 0]) ∧ w.grownBy w' none := by
  have hA : ∀ o : Obj, (w.alloc o).cell? ⟨b, 32, none⟩ = some (.int .u32 p) := fun o => (byAlloc (byRefl w) o).cell hx (by simp)
  have hdA : ∀ o : Obj, (w.alloc o).cell? ⟨b, 35, none⟩ = some (.slice d n c) := fun o => (byAlloc (byRefl w) o).cell hd (by simp)
  have HB : ∀ o, Hid (w.grownBy (w.alloc o) none) := fun o => Lib.hid (byAlloc (byRefl w) o)
  go_enter Tryz.func35, Tryz.ntmps35
  go_wp2
  refine bodyPost_ret (results_cell_row rfl _ _ w.heap.size 70 _ (0, 0) _ rfl (heap_alloc_new _ _) Tryz.underlying70 rfl (by kernel_rfl)) rfl ⟨by rfl, (HB _).out⟩
theorem dv79_far (b : Nat) (d : Option Addr) (n c : Nat) (p : Int) (p0 : 0 ≤ p) (p1 : p ≤ 4294967295) (w : World) (hx : w.cell? ⟨b, 32, none⟩ = some (.int .u32 p))
    (hd : w.cell? ⟨b, 35, none⟩ = some (.slice d n c)) (ho : (p % 4 == 0) = true) (hn : (n : Int) ≤ p / 4) :
    Calls Tryz.prog 35 #[.pointer (some ⟨b, 0, none⟩)] w fun e w' => e = .returned (.agg #[.int .i64 0, .int .i64 0, .int .i64 0, .int .i64 0, .int .i64 0]) ∧ w.grownBy w' none := by
  have hA : ∀ o : Obj, (w.alloc o).cell? ⟨b, 32, none⟩ = some (.int .u32 p) := fun o => (byAlloc (byRefl w) o).cell hx (by simp)
  have hdA : ∀ o : Obj, (w.alloc o).cell? ⟨b, 35, none⟩ = some (.slice d n c) := fun o => (byAlloc (byRefl w) o).cell hd (by simp)
  have HB : ∀ o, Hid (w.grownBy (w.alloc o) none) := fun o => Lib.hid (byAlloc (byRefl w) o)
  have hlt : decide (p / 4 < (n : Int)) = false := decide_eq_false (by omega)
  go_enter Tryz.func35, Tryz.ntmps35
  go_wp2
  refine bodyPost_ret (results_cell_row rfl _ _ w.heap.size 70 _ (0, 0) _ rfl (heap_alloc_new _ _) Tryz.underlying70 rfl (by kernel_rfl)) rfl ⟨by rfl, (HB _).out⟩
theorem dv79_in (b cb off : Nat) (n c : Nat) (k : Nat) (x0 x1 x2 x3 x4 : Int) (p1 : 4 * k ≤ 4294967295) (w : World) (hx : w.cell? ⟨b, 32, none⟩ = some (.int .u32 ((4 * k : Nat) : Int)))
    (hd : w.cell? ⟨b, 35, none⟩ = some (.slice (some ⟨cb, off, none⟩) n c)) (hk : k < n)
    (h0 : w.cell? ⟨cb, off + k * 5, none⟩ = some (.int .i64 x0)) (h1 : w.cell? ⟨cb, off + k * 5 + 1, none⟩ = some (.int .i64 x1)) (h2 : w.cell? ⟨cb, off + k * 5 + 2, none⟩ = some (.int .i64 x2)) (h3 : w.cell? ⟨cb, off + k * 5 + 3, none⟩ = some (.int .i64 x3)) (h4 : w.cell? ⟨cb, off + k * 5 + 4, none⟩ = some (.int .i64 x4)) :
    Calls Tryz.prog 35 #[.pointer (some ⟨b, 0, none⟩)] w fun e w' => e = .returned (.agg #[.int .i64 x0, .int .i64 x1, .int .i64 x2, .int .i64 x3, .int .i64 x4]) ∧ w.grownBy w' none := by
  have hA : ∀ o : Obj, (w.alloc o).cell? ⟨b, 32, none⟩ = some (.int .u32 ((4 * k : Nat) : Int)) := fun o => (byAlloc (byRefl w) o).cell hx (by simp)
  have hdA : ∀ o : Obj, (w.alloc o).cell? ⟨b, 35, none⟩ = some (.slice (some ⟨cb, off, none⟩) n c) := fun o => (byAlloc (byRefl w) o).cell hd (by simp)
  have H0 : ∀ o : Obj, (w.alloc o).cell? ⟨cb, off + k * 5, none⟩ = some (.int .i64 x0) := fun o => (byAlloc (byRefl w) o).cell h0 (by simp)
  have H1 : ∀ o : Obj, (w.alloc o).cell? ⟨cb, off + k * 5 + 1, none⟩ = some (.int .i64 x1) := fun o => (byAlloc (byRefl w) o).cell h1 (by simp)
  have H2 : ∀ o : Obj, (w.alloc o).cell? ⟨cb, off + k * 5 + 2, none⟩ = some (.int .i64 x2) := fun o => (byAlloc (byRefl w) o).cell h2 (by simp)
  have H3 : ∀ o : Obj, (w.alloc o).cell? ⟨cb, off + k * 5 + 3, none⟩ = some (.int .i64 x3) := fun o => (byAlloc (byRefl w) o).cell h3 (by simp)
  have H4 : ∀ o : Obj, (w.alloc o).cell? ⟨cb, off + k * 5 + 4, none⟩ = some (.int .i64 x4) := fun o => (byAlloc (byRefl w) o).cell h4 (by simp)
  have HB : ∀ o, Hid (w.grownBy (w.alloc o) none) := fun o => Lib.hid (byAlloc (byRefl w) o)
  have e1 : ((4 * k : Nat) : Int) % 4 = 0 := by omega
  have e2 : ((4 * k : Nat) : Int) / 4 = (k : Int) := by omega
  obtain ⟨p, hp⟩ : ∃ p : Int, p = ((4 * k : Nat) : Int) := ⟨_, rfl⟩
  have pb : 0 ≤ p ∧ p ≤ 4294967295 := by omega
  obtain ⟨pb0, pb1⟩ := pb
  rw [← hp] at hx e1 e2
  simp only [← hp] at hA
  clear hp hx hd h0 h1 h2 h3 h4
  go_enter Tryz.func35, Tryz.ntmps35
  go_wp2
  refine bodyPost_ret (results_cell_row rfl _ _ w.heap.size 70 _ (0, 0) _ rfl (heap_alloc_new _ _) Tryz.underlying70 rfl (by kernel_rfl)) rfl ⟨by rfl, (HB _).out⟩
end Go.Proofs.YthhahfggbjegmaaGreat
