/-
  Loads and writes (layer 3) of a machine that lies in a world.
-/
import Derived.Test.YtipfefkddnogjaaDevQ
import Derived.Test.YtipfefkddnogjaaDevG
import Derived.Test.YtipfefkddnogjaaPiece
namespace Go.Proofs.Ytipfefkddnogjaa
open Go.RowKit
set_option linter.unusedVariables false
set_option linter.unusedSimpArgs false
theorem place_in {n : Nat} {a s : Int} (hs : s = 1 ∨ s = 2 ∨ s = 4) (h : placeF n a s = true) : ∃ k : Nat, a = 268435456 + k ∧ (a - 268435456).toNat = k ∧ (k : Int) + s ≤ n := by
  unfold placeF at h
  split at h
  · cases h
  split at h
  · cases h
  exact ⟨(a - 268435456).toNat, by omega, rfl, by omega⟩
theorem load_at {base : Nat} {L : Lay} {lv : Value} {s : MSt} {w0 : World} (h0 : At base w0 L lv s) (hw : Wf base L lv) (op a : Int) (ho : 11 ≤ op ∧ op ≤ 15) (a0 : 0 ≤ a) (a1 : a ≤ 4294967295) :
    ∃ (v : Int) (ok : Bool), 0 ≤ v ∧ v ≤ 4294967295 ∧ loadM L s op a = (if ok = true then some v else none) ∧
      ∀ w, At base w L lv s → Calls Try.prog 85 #[.pointer (some ⟨L.b, 0, none⟩), .int .i64 op, .int .u32 a] w fun e w' => e = .returned (.tuple #[.int .u32 v, .bool ok]) ∧ Fr (fun _ => False) w w' := by
  have b34 := h0.bw 34 (.inl (by decide))
  have u34 := h0.bu 34 (.inl (by decide)) rfl
  have hin := hw.inn
  by_cases hp : op = 13 ∧ a = 536870924
  · obtain ⟨rfl, rfl⟩ := hp
    by_cases hi : s.c 34 < (L.ins.length : Int)
    · have hk : (s.c 34).toNat < L.ins.length := by omega
      have hb := hw.insb _ hk
      refine ⟨inputM L s, true, ?_, ?_, ?_, ?_⟩
      · unfold inputM; rw [if_pos hi]; exact hb.1
      · unfold inputM; rw [if_pos hi]; exact hb.2
      · unfold loadM; rw [if_pos ⟨rfl, rfl⟩]; rfl
      · intro w h
        have h34 := h.num 34 (.inl (by decide))
        obtain ⟨ib, io, e, hc⟩ := h.inputs _ hk
        have hd := h.inp
        rw [e] at hd
        have hx : w.cell? ⟨L.b, 34, none⟩ = some (.int .u32 ((s.c 34).toNat : Int)) := by rw [h34]; congr 2; omega
        have hI := c93_in L.b ib io L.ins.length L.ic (s.c 34).toNat (L.ins.getD (s.c 34).toNat 0) (by omega) (by omega) hk w hd hx hc
        refine (c85_in (inputM L s) L.b w (Lib.hid (hI.mono ?_))).mono ?_
        · rintro e w' ⟨rfl, k, rfl⟩
          exact ⟨by unfold inputM; rw [if_pos hi], k, rfl⟩
        · rintro e w' ⟨rfl, k, rfl⟩
          exact ⟨rfl, (Fr.refl _ _).drewN k⟩
    · refine ⟨0, true, by omega, by omega, ?_, ?_⟩
      · unfold loadM inputM; rw [if_pos ⟨rfl, rfl⟩, if_neg hi]; rfl
      · intro w h
        have h34 := h.num 34 (.inl (by decide))
        refine (c85_in 0 L.b w (Lib.hid (c93_out L.b L.ia L.ins.length L.ic (s.c 34) b34 u34 (by omega) (by omega) w h.inp h34))).mono ?_
        rintro e w' ⟨rfl, k, rfl⟩
        exact ⟨rfl, (Fr.refl _ _).drewN k⟩
  · have hq : op = 13 → (a == 536870924) = false := fun e => by
      rw [beq_eq_false_iff_ne]; intro e2; exact hp ⟨e, e2⟩
    have hdn := hw.dn
    have hz : sizeF op = 1 ∨ sizeF op = 2 ∨ sizeF op = 4 := by
      have : op = 11 ∨ op = 12 ∨ op = 13 ∨ op = 14 ∨ op = 15 := by omega
      rcases this with rfl | rfl | rfl | rfl | rfl <;> decide
    cases hpl : placeF L.dn a (sizeF op) with
    | false =>
      refine ⟨loadF op 0, false, ?_, ?_, ?_, ?_⟩
      · unfold loadF; split
        · exact (signF_in 8 (by omega)).1
        · split
          · exact (signF_in 16 (by omega)).1
          · omega
      · unfold loadF; split
        · exact (signF_in 8 (by omega)).2
        · split
          · exact (signF_in 16 (by omega)).2
          · omega
      · unfold loadM; rw [if_neg hp, hpl]; simp
      · intro w h
        refine (c85 op a 0 (sizeF op) rfl false L.b ho a0 a1 (by omega) (by omega) w hq (Lib.hid (c92_out L.b _ L.dn L.dc a _ a0 a1 hz (by omega) w h.dat hpl))).mono ?_
        rintro e w' ⟨rfl, hg⟩
        exact ⟨rfl, Fr.of_grown hg⟩
    | true =>
      obtain ⟨k, rfl, hk, hks⟩ := place_in hz hpl
      have hR : ∃ v, v = readM s k (sizeF op) ∧ 0 ≤ v ∧ v ≤ 4294967295 ∧ ∀ w, At base w L lv s → Calls Try.prog 92 #[.pointer (some ⟨L.b, 0, none⟩), .int .u32 (268435456 + k), .int .i64 (sizeF op)] w fun e w' => e = .returned (.tuple #[.int .u32 v, .bool true]) ∧ ∃ k, w' = w.drewN k := by
        rcases hz with hz | hz | hz
        · rw [hz] at hks hpl ⊢
          have hk0 : k < L.dn := by omega
          exact ⟨_, rfl, (or_in _ _).1, (or_in _ _).2, fun w h => c92_1 L.b L.db L.dof L.dn L.dc k _ (h.bd k hk0).1 (h.bd k hk0).2 (by omega) w h.dat hpl (by omega) (h.byte k hk0)⟩
        · rw [hz] at hks hpl ⊢
          have hk0 : k < L.dn := by omega
          have hk1 : k + 1 < L.dn := by omega
          exact ⟨_, rfl, (or_in _ _).1, (or_in _ _).2, fun w h => c92_2 L.b L.db L.dof L.dn L.dc k _ _ (h.bd k hk0).1 (h.bd k hk0).2 (h.bd (k+1) hk1).1 (h.bd (k+1) hk1).2 (by omega) w h.dat hpl (by omega) (h.byte k hk0) (h.byte (k + 1) hk1)⟩
        · rw [hz] at hks hpl ⊢
          have hk0 : k < L.dn := by omega
          have hk1 : k + 1 < L.dn := by omega
          have hk2 : k + 2 < L.dn := by omega
          have hk3 : k + 3 < L.dn := by omega
          exact ⟨_, rfl, (or_in _ _).1, (or_in _ _).2, fun w h => c92_4 L.b L.db L.dof L.dn L.dc k _ _ _ _ (h.bd k hk0).1 (h.bd k hk0).2 (h.bd (k+1) hk1).1 (h.bd (k+1) hk1).2 (h.bd (k+2) hk2).1 (h.bd (k+2) hk2).2 (h.bd (k+3) hk3).1 (h.bd (k+3) hk3).2 (by omega) w h.dat hpl (by omega) (h.byte k hk0) (h.byte (k + 1) hk1) (h.byte (k + 2) hk2) (h.byte (k + 3) hk3)⟩
      obtain ⟨v, hv, v0, v1, hC⟩ := hR
      refine ⟨loadF op v, true, ?_, ?_, ?_, ?_⟩
      · unfold loadF; split
        · exact (signF_in 8 ⟨v0, v1⟩).1
        · split
          · exact (signF_in 16 ⟨v0, v1⟩).1
          · exact v0
      · unfold loadF; split
        · exact (signF_in 8 ⟨v0, v1⟩).2
        · split
          · exact (signF_in 16 ⟨v0, v1⟩).2
          · exact v1
      · unfold loadM; rw [if_neg hp, hpl, hk, hv, if_pos rfl]
      · intro w h
        refine (c85 op _ v (sizeF op) rfl true L.b ho a0 a1 v0 v1 w hq (Lib.hid (hC w h))).mono ?_
        rintro e w' ⟨rfl, hg⟩
        exact ⟨rfl, Fr.of_grown hg⟩
theorem put1 (d : Nat → Int) (k : Nat) (v : Int) : putM d k 1 v = updN d k (v % 256) := by unfold putM; rw [if_pos rfl]
theorem put2 (d : Nat → Int) (k : Nat) (v : Int) : putM d k 2 v = updN (updN d k (v % 256)) (k + 1) (v / 256 % 256) := by unfold putM; rw [if_neg (by decide), if_pos rfl]
theorem put4 (d : Nat → Int) (k : Nat) (v : Int) : putM d k 4 v = updN (updN (updN (updN d k (v % 256)) (k + 1) (v / 256 % 256)) (k + 2) (v / 65536 % 256)) (k + 3) (v / 16777216) := by unfold putM; rw [if_neg (by decide), if_neg (by decide)]
theorem write_at {base : Nat} {L : Lay} {lv : Value} {s : MSt} {w : World} (h : At base w L lv s) (hw : Wf base L lv) (a n v : Int) (hn : n = 1 ∨ n = 2 ∨ n = 4) (a0 : 0 ≤ a) (a1 : a ≤ 4294967295) (v0 : 0 ≤ v) (v1 : v ≤ 4294967295) :
    Calls Try.prog 94 #[.pointer (some ⟨L.b, 0, none⟩), .int .u32 a, .int .i64 n, .int .u32 v] w fun e w' => e = .returned (.bool (placeF L.dn a n)) ∧
      Okay base L lv w w' (if placeF L.dn a n = true then { s with data := putM s.data (a - 268435456).toNat n v } else s) := by
  have hdn := hw.dn
  cases hpl : placeF L.dn a n with
  | false =>
    refine (c94_out L.b _ L.dn L.dc a n v a0 a1 hn (by omega) w h.dat hpl).mono ?_
    rintro e w' ⟨rfl, k, rfl⟩
    exact ⟨rfl, Okay.quiet h hw ((Fr.refl _ _).drewN k)⟩
  | true =>
    rw [if_pos rfl]
    obtain ⟨k, rfl, hk, hks⟩ := place_in hn hpl
    rw [hk]
    have hk0 : k < L.dn := by omega
    rcases hn with rfl | rfl | rfl
    · rw [put1]
      refine (c94_1 L.b L.db L.dof L.dn L.dc k v _ v0 v1 (by omega) hw.db w h.dat hpl (by omega) (h.dfree k hk0) (h.byte k hk0)).mono ?_
      rintro e w' ⟨rfl, j, rfl⟩
      exact ⟨rfl, (Okay.setByte h hw k hk0 _ (by omega)).drewN j⟩
    · rw [put2]
      have hk1 : k + 1 < L.dn := by omega
      refine (c94_2 L.b L.db L.dof L.dn L.dc k v _ _ v0 v1 (by omega) hw.db w h.dat hpl (by omega) (h.dfree k hk0) (h.byte k hk0) (h.dfree (k+1) hk1) (h.byte (k+1) hk1)).mono ?_
      rintro e w' ⟨rfl, j, rfl⟩
      exact ⟨rfl, ((Okay.setByte h hw k hk0 _ (by omega)).trans fun _ a f => Okay.setByte a f (k + 1) hk1 _ (by omega)).drewN j⟩
    · rw [put4]
      have hk1 : k + 1 < L.dn := by omega
      have hk2 : k + 2 < L.dn := by omega
      have hk3 : k + 3 < L.dn := by omega
      refine (c94_4 L.b L.db L.dof L.dn L.dc k v _ _ _ _ v0 v1 (by omega) hw.db w h.dat hpl (by omega) (h.dfree k hk0) (h.byte k hk0) (h.dfree (k+1) hk1) (h.byte (k+1) hk1) (h.dfree (k+2) hk2) (h.byte (k+2) hk2) (h.dfree (k+3) hk3) (h.byte (k+3) hk3)).mono ?_
      rintro e w' ⟨rfl, j, rfl⟩
      exact ⟨rfl, ((((Okay.setByte h hw k hk0 _ (by omega)).trans fun _ a f => Okay.setByte a f (k + 1) hk1 _ (by omega)).trans fun _ a f => Okay.setByte a f (k + 2) hk2 _ (by omega)).trans fun _ a f => Okay.setByte a f (k + 3) hk3 _ (by omega)).drewN j⟩
end Go.Proofs.Ytipfefkddnogjaa
