/-
  The contracts of fetch, advance and Fail (layer 3) over a machine that lies in a world.
-/
import Derived.Test.YtipfefkddnogjaaDevBb
import Derived.Test.YtipfefkddnogjaaDevCc
namespace Go.Proofs.Ytipfefkddnogjaa
open Go.RowKit
set_option linter.unusedVariables false
set_option linter.unusedSimpArgs false
theorem fetch_at {base : Nat} {L : Lay} {lv : Value} {s : MSt} {w : World} (h : At base w L lv s) (hw : Wf base L lv) :
    Calls Try.prog 79 #[.pointer (some ⟨L.b, 0, none⟩)] w fun e w' => e = .returned (.agg #[.int .i64 ((fetchM L s).getD 0 0), .int .i64 ((fetchM L s).getD 1 0), .int .i64 ((fetchM L s).getD 2 0), .int .i64 ((fetchM L s).getD 3 0), .int .i64 ((fetchM L s).getD 4 0)]) ∧ Fr (fun _ => False) w w' := by
  have hx : w.cell? ⟨L.b, 32, none⟩ = some (.int .u32 (s.c 32)) := h.num 32 (.inl (by decide))
  have p0 := h.bw 32 (.inl (by decide))
  have p1 := h.bu 32 (.inl (by decide)) rfl
  by_cases ho : s.c 32 % 4 = 0
  · by_cases hn : s.c 32 / 4 < (L.code.length : Int)
    · have e : fetchM L s = L.code.getD (s.c 32 / 4).toNat [] := by unfold fetchM; rw [if_pos ⟨ho, hn⟩]
      rw [e]
      have hk : (s.c 32 / 4).toNat < L.code.length := by omega
      have e2 : s.c 32 = ((4 * (s.c 32 / 4).toNat : Nat) : Int) := by omega
      rw [e2] at hx
      have hi := h.insts _ hk
      refine (c79_in L.b L.cb L.co L.code.length L.cc (s.c 32 / 4).toNat _ _ _ _ _ (by omega) w hx h.code hk (hi 0 (by decide)) (hi 1 (by decide)) (hi 2 (by decide)) (hi 3 (by decide)) (hi 4 (by decide))).mono ?_
      rintro e w' ⟨rfl, hg⟩
      exact ⟨rfl, Fr.of_by0 hg⟩
    · have e : fetchM L s = [0, 0, 0, 0, 0] := by unfold fetchM; rw [if_neg (fun q => hn q.2)]
      rw [e]
      refine (c79_far L.b _ L.code.length L.cc (s.c 32) p0 p1 w hx h.code (by rw [ho]; rfl) (by omega)).mono ?_
      rintro e w' ⟨rfl, hg⟩
      exact ⟨rfl, Fr.of_by0 hg⟩
  · have e : fetchM L s = [0, 0, 0, 0, 0] := by unfold fetchM; rw [if_neg (fun q => ho q.1)]
    rw [e]
    refine (c79_odd L.b _ L.code.length L.cc (s.c 32) p0 p1 w hx h.code (by rw [beq_eq_false_iff_ne]; exact ho)).mono ?_
    rintro e w' ⟨rfl, hg⟩
    exact ⟨rfl, Fr.of_by0 hg⟩
theorem exec_at' {base : Nat} {L : Lay} {lv : Value} {s : MSt} {w : World} (h : At base w L lv s) (hw : Wf base L lv) (hl : s.log.length < 900000) :
    Calls Try.prog 78 #[.pointer (some ⟨L.b, 0, none⟩), .agg #[.int .i64 ((fetchM L s).getD 0 0), .int .i64 ((fetchM L s).getD 1 0), .int .i64 ((fetchM L s).getD 2 0), .int .i64 ((fetchM L s).getD 3 0), .int .i64 ((fetchM L s).getD 4 0)]] w fun e w' =>
      e = .returned (.bool (execM L (fetchM L s) s).isSome) ∧ Okay base L lv w w' ((execM L (fetchM L s) s).getD s) := by
  obtain ⟨_, o0, o1, ⟨a0, a1⟩, ⟨b0, b1⟩, ⟨c0, c1⟩⟩ := fetch_ok hw.ok s
  have := exec_at h hw hl ((fetchM L s).getD 0 0) ((fetchM L s).getD 4 0) ((fetchM L s).getD 1 0).toNat ((fetchM L s).getD 2 0).toNat ((fetchM L s).getD 3 0).toNat ⟨o0, o1⟩ ⟨by omega, by omega, by omega⟩
  rw [Int.toNat_of_nonneg a0, Int.toNat_of_nonneg b0, Int.toNat_of_nonneg c0] at this
  exact this
theorem storeM_log {L : Lay} {s t : MSt} {op a v : Int} (h : storeM L s op a v = some t) : t.log.length ≤ s.log.length + 1 := by
  unfold storeM at h
  (repeat' split at h) <;> simp only [Option.some.injEq, reduceCtorEq] at h <;> subst h <;> simp
theorem exec5_log {L : Lay} {op imm : Int} {rd r1 r2 : Nat} {s t : MSt} (h : exec5 L op rd r1 r2 imm s = some t) : t.log.length ≤ s.log.length + 1 := by
  unfold exec5 at h
  split at h; · simp at h
  split at h; · simp only [Option.some.injEq] at h; subst h; simp
  split at h; · simp only [Option.some.injEq] at h; subst h; simp
  split at h; · simp only [Option.some.injEq] at h; subst h; simp
  split at h; · simp only [Option.some.injEq] at h; subst h; simp
  split at h; · simp only [Option.some.injEq] at h; subst h; simp
  split at h
  · simp only [Option.map_eq_some_iff] at h
    obtain ⟨v, _, rfl⟩ := h
    simp
  split at h
  · simp only [Option.map_eq_some_iff] at h
    obtain ⟨u, hu, rfl⟩ := h
    have := storeM_log hu
    simpa using this
  · simp only [Option.some.injEq] at h; subst h; simp
theorem adv_log {L : Lay} (hc : CodeOk L) {s : MSt} (h : (s.log.length : Int) ≤ s.c 39) : ((advM L s).log.length : Int) ≤ (advM L s).c 39 := by
  unfold advM
  split
  · rename_i t ht
    have h1 := exec5_log ht
    have h2 := exec5_steps (by have := (fetch_ok hc s).2.2.2.1; omega) ht
    show (t.log.length : Int) ≤ updN t.c 39 (t.c 39 + 1) 39
    rw [updN_same, h2]
    omega
  · show (s.log.length : Int) ≤ updN s.c 40 2 39
    rw [updN_other (by decide)]
    exact h
theorem advance_at {base : Nat} {L : Lay} {lv : Value} {s : MSt} {w : World} (h : At base w L lv s) (hw : Wf base L lv) (hl : (s.log.length : Int) ≤ s.c 39) (hn : s.c 39 ≤ 800000) :
    Calls Try.prog 60 #[.pointer (some ⟨L.b, 0, none⟩)] w fun e w' => e = .returned (.tuple #[]) ∧ Okay base L lv w w' (advM L s) := by
  have n0 := h.bw 39 (.inr (by decide))
  have H79 := Lib.hid (fetch_at h hw)
  cases hx : execM L (fetchM L s) s with
  | some t =>
    have hst : t.c 39 = s.c 39 := exec5_steps (by have := (fetch_ok hw.ok s).2.2.2.1; omega) hx
    have e : advM L s = { t with c := updN t.c 39 (t.c 39 + 1) } := by unfold advM; rw [hx]
    rw [e, hst]
    refine (c60_yes L.b _ _ _ _ _ (s.c 39) n0 (by omega) (Fr (fun _ => False) w) (fun w' => Okay base L lv w w' t) w H79 (Lib.hid fun w1 h1 => (exec_at' (h.grown0 h1) hw (by omega)).mono ?_) (Lib.hid fun w2 ⟨lv', a, f, _, _⟩ => ⟨by rw [← hst]; exact a.num 39 (.inr (by decide)), a.free 39 (by decide)⟩)).mono ?_
    · rintro e w' ⟨rfl, hk⟩
      rw [hx] at hk ⊢
      exact ⟨rfl, Okay.before h1 hk⟩
    · rintro e w' ⟨rfl, w2, hk, rfl⟩
      exact ⟨rfl, hk.trans fun _ a f => Okay.setNum a f 39 (.inr (by decide)) _ (by omega) (fun e => by cases e)⟩
  | none =>
    have e : advM L s = { s with c := updN s.c 40 2 } := by unfold advM; rw [hx]
    rw [e]
    refine (c60_no L.b _ _ _ _ _ (s.c 40) (Fr (fun _ => False) w) (fun w' => Okay base L lv w w' s) w H79 (Lib.hid fun w1 h1 => (exec_at' (h.grown0 h1) hw (by omega)).mono ?_) (Lib.hid fun w2 ⟨lv', a, f, _, _⟩ => ⟨a.num 40 (.inr (by decide)), a.free 40 (by decide)⟩)).mono ?_
    · rintro e w' ⟨rfl, hk⟩
      rw [hx] at hk ⊢
      exact ⟨rfl, Okay.before h1 hk⟩
    · rintro e w' ⟨rfl, w2, hk, rfl⟩
      exact ⟨rfl, hk.trans fun _ a f => Okay.setNum a f 40 (.inr (by decide)) _ (by decide) (fun e => by cases e)⟩
theorem Fr.setCells {F : Nat → Prop} {b : Nat} (hF : F b) : ∀ (vs : List Value) (o : Nat) (w : World), Fr F w (w.setCells b o vs)
  | [], _, w => Fr.refl _ _
  | v :: r, o, w => (Fr.setCell w ⟨b, o, none⟩ v hF).trans (Fr.setCells hF r (o + 1) _)
theorem fail_at {base : Nat} {L : Lay} {lv : Value} {s : MSt} {w : World} (h : At base w L lv s) (hw : Wf base L lv) (h0 : s.c 40 = 0) :
    Calls Try.prog 55 #[.pointer (some ⟨L.b, 0, none⟩)] w fun e w' => e = .returned (.tuple #[]) ∧ Okay base L lv w w' (failM s) := by
  have h40 : w.cell? ⟨L.b, 40, none⟩ = some (.int .i64 0) := by rw [← h0]; exact h.num 40 (.inr (by decide))
  have ht : w.there L.b 0 35 := fun j hj => ⟨by rw [Nat.zero_add, h.num j (.inl hj)]; rfl, by rw [Nat.zero_add]; exact h.free j (by omega)⟩
  refine (c55 L.b w h40 ht).mono ?_
  rintro e w' ⟨rfl, rfl⟩
  refine ⟨rfl, ?_⟩
  have hin : ∀ o, o < 35 → (w.setCells L.b 0 zeros35).cell? ⟨L.b, o, none⟩ = some (.int .u32 0) := fun o ho => by
    have := World.cell?_setCells_in L.b zeros35 0 w (fun j hj => (ht j (by simpa [zeros35] using hj)).1) o (by simpa [zeros35] using ho)
    rw [Nat.zero_add] at this
    rw [this]
    simp only [zeros35, List.getElem_replicate]
  have hout : ∀ b o, (b = L.b → 35 ≤ o) → (w.setCells L.b 0 zeros35).cell? ⟨b, o, none⟩ = w.cell? ⟨b, o, none⟩ := fun b o hb =>
    World.cell?_setCells_out L.b zeros35 0 w ⟨b, o, none⟩ (fun e _ => .inr (by have := hb e; simpa [zeros35] using this))
  have hfr : ∀ a, (w.setCells L.b 0 zeros35).frozen? a = w.frozen? a := fun a => World.frozen?_setCells _ _ _ _ _
  have hF : Fr (fun k => k = L.b) w (w.setCells L.b 0 zeros35) := Fr.setCells (F := fun k => k = L.b) rfl _ _ _
  refine ⟨lv, ⟨fun o ho => ?_, ?_, ?_, ?_, ?_, hF.owns h.own (fun k hk e => (hw.lb k hk).1 e), fun o ho => (hfr _).trans (h.free o ho), fun k hk => ?_, fun k hk => (hfr _).trans (h.dfree k hk), fun k hk j hj => ?_, fun k hk => ?_, fun o ho => ?_, fun o ho hk => ?_, h.bd, Nat.le_trans h.bb hF.size, fun a ha => Nat.lt_of_lt_of_le (h.ilt a ha) hF.size⟩, hw, hF.mono (fun k _ e => .inl e), fun g hg => .inl hg⟩
  · show _ = some (Value.int (kindAt o) (if o < 35 then 0 else s.c o))
    by_cases h35 : o < 35
    · rw [hin o h35, if_pos h35]
      have : kindAt o = .u32 := by unfold kindAt; rw [if_neg (by omega), if_neg (by omega)]
      rw [this]
    · rw [hout _ _ (fun _ => by omega), if_neg h35]; exact h.num o ho
  · rw [hout _ _ (fun _ => by omega)]; exact h.code
  · rw [hout _ _ (fun _ => by omega)]; exact h.dat
  · rw [hout _ _ (fun _ => by omega)]; exact h.inp
  · rw [hout _ _ (fun _ => by omega)]; exact h.logv
  · rw [hout _ _ (fun e => absurd e hw.db)]; exact h.byte k hk
  · rw [hout _ _ (fun e => absurd e hw.cb)]; exact h.insts k hk j hj
  · obtain ⟨b, o, e, hc⟩ := h.inputs k hk
    exact ⟨b, o, e, by rw [hout _ _ (fun q => absurd q (hw.ib ⟨b, o, none⟩ e).1)]; exact hc⟩
  · show 0 ≤ (if o < 35 then 0 else s.c o)
    split
    · exact Int.le_refl _
    · exact h.bw o ho
  · show (if o < 35 then 0 else s.c o) ≤ 4294967295
    split
    · decide
    · exact h.bu o ho hk
end Go.Proofs.Ytipfefkddnogjaa
