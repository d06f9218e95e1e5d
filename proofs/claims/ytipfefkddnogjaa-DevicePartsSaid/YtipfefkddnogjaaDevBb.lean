/-
  The contract of execute (layer 3), every instruction, over a machine that lies in a world.
-/
import Derived.Test.YtipfefkddnogjaaDevT
import Derived.Test.YtipfefkddnogjaaDevK
import Derived.Test.YtipfefkddnogjaaDevU
import Derived.Test.YtipfefkddnogjaaDevY
import Derived.Test.YtipfefkddnogjaaDevZ
namespace Go.Proofs.Ytipfefkddnogjaa
open Go.RowKit
set_option linter.unusedVariables false
set_option linter.unusedSimpArgs false
theorem bits_in (o : BinOp) (x y : Int) : 0 ≤ bits o .u32 x y ∧ bits o .u32 x y ≤ 4294967295 := wf_u32 (wf_bits o .u32 x y)
theorem less_in (a b : Int) : 0 ≤ lessF a b ∧ lessF a b ≤ 4294967295 := by unfold lessF; split <;> omega
theorem lessU_in (a b : Int) : 0 ≤ lessUF a b ∧ lessUF a b ≤ 4294967295 := by unfold lessUF; split <;> omega
theorem right_in {a : Int} (b : Int) (h0 : 0 ≤ a) (h1 : a ≤ 4294967295) : 0 ≤ rightF a b ∧ rightF a b ≤ 4294967295 := by
  unfold rightF
  have := pw_lo b
  have e1 := Int.ediv_nonneg h0 (show 0 ≤ pw b by omega)
  have e2 := Int.ediv_le_self (pw b) h0
  omega
theorem multF_in {op a b : Int} (h0 : 0 ≤ a) (h1 : a ≤ 4294967295) (g0 : 0 ≤ b) (g1 : b ≤ 4294967295) : 0 ≤ multF op a b ∧ multF op a b ≤ 4294967295 := by
  unfold multF
  split; · exact mod_in _
  split; · exact mod_in _
  split; · exact mod_in _
  split; · exact highUF_in h0 h1 g0 g1
  split
  · unfold divF; split
    · omega
    · exact mod_in _
  split
  · unfold divUF; split
    · omega
    · exact divU_in h0 h1 g0
  split
  · unfold remF; split
    · omega
    · exact mod_in _
  · unfold remUF; split
    · omega
    · exact remU_in (by omega) g1
theorem compF_in {op a b imm : Int} (h0 : 0 ≤ a) (h1 : a ≤ 4294967295) (g0 : 0 ≤ b) (g1 : b ≤ 4294967295) (i0 : 0 ≤ imm) (i1 : imm ≤ 4294967295) : 0 ≤ compF op a b imm ∧ compF op a b imm ≤ 4294967295 := by
  unfold compF
  have hb : 0 ≤ (if op ≤ 27 then imm else b) ∧ (if op ≤ 27 then imm else b) ≤ 4294967295 := by split <;> omega
  generalize (if op ≤ 27 then imm else b) = y at hb
  obtain ⟨y0, y1⟩ := hb
  unfold longF
  split; · exact mod_in _
  split; · exact mod_in _
  split; · exact mod_in _
  split; · exact less_in _ _
  split; · exact lessU_in _ _
  split; · exact bits_in _ _ _
  split; · exact right_in _ h0 h1
  split; · exact mod_in _
  split; · exact bits_in _ _ _
  split; · exact bits_in _ _ _
  exact multF_in h0 h1 y0 y1
theorem kind_reg {r : Nat} (hr : r < 32) : kindAt r = .u32 := by unfold kindAt; rw [if_neg (by omega), if_neg (by omega)]
theorem At.reg {base : Nat} {w : World} {L : Lay} {lv : Value} {s : MSt} (h : At base w L lv s) {r : Nat} (hr : r < 32) : w.cell? ⟨L.b, r, none⟩ = some (.int .u32 (s.c r)) := by
  have := h.num r (.inl (by omega)); rwa [kind_reg hr] at this
theorem At.regb {base : Nat} {w : World} {L : Lay} {lv : Value} {s : MSt} (h : At base w L lv s) {r : Nat} (hr : r < 32) : 0 ≤ s.c r ∧ s.c r ≤ 4294967295 :=
  ⟨h.bw r (.inl (by omega)), h.bu r (.inl (by omega)) (kind_reg hr)⟩
theorem fin_set {base : Nat} {L : Lay} {lv : Value} {s : MSt} {w w2 : World} (h : At base w L lv s) (hw : Wf base L lv) (hf : Fr (fun _ => False) w w2) {rd : Nat} (hr : rd < 32) {v p : Int} (v0 : 0 ≤ v ∧ v ≤ 4294967295) (p0 : 0 ≤ p ∧ p ≤ 4294967295) :
    Okay base L lv w ((Ytipfefkddnogjaa.setW w2 L.b rd v).setCell ⟨L.b, 32, none⟩ (.int .u32 p)) { s with c := updN (setR s.c rd v) 32 p } :=
  Okay.before hf ((Okay.setW (h.grown0 hf) hw rd hr v v0.1 v0.2).trans fun _ a f => Okay.setNum a f 32 (.inl (by decide)) p p0.1 (fun _ => p0.2))
theorem fin_pc {base : Nat} {L : Lay} {lv : Value} {s : MSt} {w w2 : World} (h : At base w L lv s) (hw : Wf base L lv) (hf : Fr (fun _ => False) w w2) {p : Int} (p0 : 0 ≤ p ∧ p ≤ 4294967295) :
    Okay base L lv w (w2.setCell ⟨L.b, 32, none⟩ (.int .u32 p)) { s with c := updN s.c 32 p } :=
  Okay.before hf (Okay.setNum (h.grown0 hf) hw 32 (.inl (by decide)) p p0.1 (fun _ => p0.2))
theorem storeM_pc {L : Lay} {s t : MSt} {op a v : Int} (h : storeM L s op a v = some t) : t.c 32 = s.c 32 := by
  unfold storeM at h
  (repeat' split at h) <;> simp only [Option.some.injEq, reduceCtorEq] at h <;> subst h <;> simp [updN]
theorem exec_at {base : Nat} {L : Lay} {lv : Value} {s : MSt} {w : World} (h : At base w L lv s) (hw : Wf base L lv) (hl : s.log.length < 900000) (op imm : Int) (rd r1 r2 : Nat) (ho : 0 ≤ op ∧ op ≤ 45) (hr : rd < 32 ∧ r1 < 32 ∧ r2 < 32) :
    Calls Try.prog 78 #[.pointer (some ⟨L.b, 0, none⟩), .agg #[.int .i64 op, .int .i64 rd, .int .i64 r1, .int .i64 r2, .int .i64 imm]] w fun e w' =>
      e = .returned (.bool (exec5 L op rd r1 r2 imm s).isSome) ∧ Okay base L lv w w' ((exec5 L op rd r1 r2 imm s).getD s) := by
  have hx : w.cell? ⟨L.b, 32, none⟩ = some (.int .u32 (s.c 32)) := h.num 32 (.inl (by decide))
  have p0 := h.bw 32 (.inl (by decide))
  have p1 := h.bu 32 (.inl (by decide)) rfl
  have hd := h.reg hr.1
  have h1 := h.reg hr.2.1
  have h2 := h.reg hr.2.2
  obtain ⟨y0, y1⟩ := h.regb hr.2.1
  obtain ⟨u0, u1⟩ := h.regb hr.2.2
  have hf := h.free rd (by omega)
  have hfp := h.free 32 (by decide)
  have m1 : 0 ≤ (s.c 32 + 4) % 4294967296 ∧ (s.c 32 + 4) % 4294967296 ≤ 4294967295 := mod_in _
  have m2 : 0 ≤ (s.c 32 + imm) % 4294967296 ∧ (s.c 32 + imm) % 4294967296 ≤ 4294967295 := mod_in _
  have m3 : 0 ≤ (s.c r1 + imm) % 4294967296 ∧ (s.c r1 + imm) % 4294967296 ≤ 4294967295 := mod_in _
  by_cases e0 : op = 0
  · subst e0
    refine (c78_0 L.b rd r1 r2 imm (s.c 32) (s.c r1) (s.c r2) hr p0 p1 w hx h1 h2).mono ?_
    rintro e w' ⟨rfl, hg⟩
    exact ⟨rfl, Okay.quiet h hw (Fr.of_by0 hg)⟩
  by_cases e1 : op = 1
  · subst e1
    refine (c78_1 L.b rd r1 r2 imm (s.c 32) (s.c r1) (s.c r2) hr p0 p1 w hx h1 h2 _ hd hf hfp).mono ?_
    rintro e w' ⟨rfl, wI, j, hg, rfl⟩
    exact ⟨rfl, fin_set h hw (Fr.of_by0 (byDrewN hg j)) hr.1 (mod_in _) m1⟩
  by_cases e2 : op = 2
  · subst e2
    refine (c78_2 L.b rd r1 r2 imm (s.c 32) (s.c r1) (s.c r2) hr p0 p1 y0 y1 u0 u1 w hx h1 h2 _ hd hf hfp).mono ?_
    rintro e w' ⟨rfl, wI, j, hg, rfl⟩
    exact ⟨rfl, fin_set h hw (Fr.of_by0 (byDrewN hg j)) hr.1 m2 m1⟩
  by_cases e3 : op = 3
  · subst e3
    refine (c78_3 L.b rd r1 r2 imm (s.c 32) (s.c r1) (s.c r2) hr p0 p1 y0 y1 u0 u1 w hx h1 h2 _ hd hf hfp).mono ?_
    rintro e w' ⟨rfl, wI, j, hg, rfl⟩
    exact ⟨rfl, fin_set h hw (Fr.of_by0 (byDrewN hg j)) hr.1 m1 m2⟩
  by_cases e4 : op = 4
  · subst e4
    refine (c78_4 L.b rd r1 r2 imm (s.c 32) (s.c r1) (s.c r2) hr p0 p1 y0 y1 u0 u1 w hx h1 h2 _ hd hf hfp).mono ?_
    rintro e w' ⟨rfl, wI, j, hg, rfl⟩
    rw [even_of m3.1 m3.2]
    exact ⟨rfl, fin_set h hw (Fr.of_by0 (byDrewN hg j)) hr.1 m1 (by omega)⟩
  have n4 : ¬ op ≤ 4 := by omega
  by_cases e10 : op ≤ 10
  · have ee : exec5 L op rd r1 r2 imm s = some { s with c := updN s.c 32 (if holdsF op (s.c r1) (s.c r2) = true then (s.c 32 + imm) % 4294967296 else (s.c 32 + 4) % 4294967296) } := by
      unfold exec5; rw [if_neg e0, if_neg e1, if_neg e2, if_neg e3, if_neg e4, if_pos e10]
    rw [ee]
    have hc : op = 5 ∨ op = 6 ∨ op = 7 ∨ op = 8 ∨ op = 9 ∨ op = 10 := by omega
    cases ht : holdsF op (s.c r1) (s.c r2) with
    | true =>
      have post : ∀ e w', (e = Ending.returned (.bool true) ∧ ∃ wI j, w.grownBy wI none ∧ w' = (wI.drewN j).setCell ⟨L.b, 32, none⟩ (.int .u32 ((s.c 32 + imm) % 4294967296))) →
          e = .returned (.bool true) ∧ Okay base L lv w w' { s with c := updN s.c 32 ((s.c 32 + imm) % 4294967296) } := by
        rintro e w' ⟨rfl, wI, j, hg, rfl⟩
        exact ⟨rfl, fin_pc h hw (Fr.of_by0 (byDrewN hg j)) m2⟩
      rcases hc with rfl | rfl | rfl | rfl | rfl | rfl
      · exact (c78_5t L.b rd r1 r2 imm (s.c 32) (s.c r1) (s.c r2) hr p0 p1 y0 y1 u0 u1 w hx h1 h2 _ hd hf hfp ht).mono post
      · exact (c78_6t L.b rd r1 r2 imm (s.c 32) (s.c r1) (s.c r2) hr p0 p1 y0 y1 u0 u1 w hx h1 h2 _ hd hf hfp ht).mono post
      · exact (c78_7t L.b rd r1 r2 imm (s.c 32) (s.c r1) (s.c r2) hr p0 p1 y0 y1 u0 u1 w hx h1 h2 _ hd hf hfp ht).mono post
      · exact (c78_8t L.b rd r1 r2 imm (s.c 32) (s.c r1) (s.c r2) hr p0 p1 y0 y1 u0 u1 w hx h1 h2 _ hd hf hfp ht).mono post
      · exact (c78_9t L.b rd r1 r2 imm (s.c 32) (s.c r1) (s.c r2) hr p0 p1 y0 y1 u0 u1 w hx h1 h2 _ hd hf hfp ht).mono post
      · exact (c78_10t L.b rd r1 r2 imm (s.c 32) (s.c r1) (s.c r2) hr p0 p1 y0 y1 u0 u1 w hx h1 h2 _ hd hf hfp ht).mono post
    | false =>
      have post : ∀ e w', (e = Ending.returned (.bool true) ∧ ∃ wI j, w.grownBy wI none ∧ w' = (wI.drewN j).setCell ⟨L.b, 32, none⟩ (.int .u32 ((s.c 32 + 4) % 4294967296))) →
          e = .returned (.bool true) ∧ Okay base L lv w w' { s with c := updN s.c 32 ((s.c 32 + 4) % 4294967296) } := by
        rintro e w' ⟨rfl, wI, j, hg, rfl⟩
        exact ⟨rfl, fin_pc h hw (Fr.of_by0 (byDrewN hg j)) m1⟩
      rcases hc with rfl | rfl | rfl | rfl | rfl | rfl
      · exact (c78_5f L.b rd r1 r2 imm (s.c 32) (s.c r1) (s.c r2) hr p0 p1 y0 y1 u0 u1 w hx h1 h2 _ hd hf hfp ht).mono post
      · exact (c78_6f L.b rd r1 r2 imm (s.c 32) (s.c r1) (s.c r2) hr p0 p1 y0 y1 u0 u1 w hx h1 h2 _ hd hf hfp ht).mono post
      · exact (c78_7f L.b rd r1 r2 imm (s.c 32) (s.c r1) (s.c r2) hr p0 p1 y0 y1 u0 u1 w hx h1 h2 _ hd hf hfp ht).mono post
      · exact (c78_8f L.b rd r1 r2 imm (s.c 32) (s.c r1) (s.c r2) hr p0 p1 y0 y1 u0 u1 w hx h1 h2 _ hd hf hfp ht).mono post
      · exact (c78_9f L.b rd r1 r2 imm (s.c 32) (s.c r1) (s.c r2) hr p0 p1 y0 y1 u0 u1 w hx h1 h2 _ hd hf hfp ht).mono post
      · exact (c78_10f L.b rd r1 r2 imm (s.c 32) (s.c r1) (s.c r2) hr p0 p1 y0 y1 u0 u1 w hx h1 h2 _ hd hf hfp ht).mono post
  by_cases e15 : op ≤ 15
  · have ee : exec5 L op rd r1 r2 imm s = (loadM L s op ((s.c r1 + imm) % 4294967296)).map fun v => { s with c := updN (setR s.c rd v) 32 ((s.c 32 + 4) % 4294967296) } := by
      unfold exec5; rw [if_neg e0, if_neg e1, if_neg e2, if_neg e3, if_neg e4, if_neg e10, if_pos e15]
    rw [ee]
    have hc : op = 11 ∨ op = 12 ∨ op = 13 ∨ op = 14 ∨ op = 15 := by omega
    obtain ⟨v, ok, v0, v1, hv, hL⟩ := load_at h hw op _ (by omega) m3.1 m3.2
    rw [hv]
    have HL : Hid (∀ w1, Fr (fun _ => False) w w1 → Calls Try.prog 85 #[.pointer (some ⟨L.b, 0, none⟩), .int .i64 op, .int .u32 ((s.c r1 + imm) % 4294967296)] w1 fun e w' => e = .returned (.tuple #[.int .u32 v, .bool ok]) ∧ Fr (fun _ => False) w1 w') :=
      Lib.hid (fun w1 hf => hL w1 (h.grown0 hf))
    cases ok with
    | true =>
      have post : ∀ e w', (e = Ending.returned (.bool true) ∧ ∃ w2, Fr (fun _ => False) w w2 ∧ w' = (Ytipfefkddnogjaa.setW w2 L.b rd v).setCell ⟨L.b, 32, none⟩ (.int .u32 ((s.c 32 + 4) % 4294967296))) →
          e = .returned (.bool true) ∧ Okay base L lv w w' { s with c := updN (setR s.c rd v) 32 ((s.c 32 + 4) % 4294967296) } := by
        rintro e w' ⟨rfl, w2, hg, rfl⟩
        exact ⟨rfl, fin_set h hw hg hr.1 ⟨v0, v1⟩ m1⟩
      rcases hc with rfl | rfl | rfl | rfl | rfl
      · exact (c78_11t L.b rd r1 r2 imm (s.c 32) (s.c r1) (s.c r2) hr p0 p1 y0 y1 u0 u1 w hx h1 h2 _ hd hf hfp v HL).mono post
      · exact (c78_12t L.b rd r1 r2 imm (s.c 32) (s.c r1) (s.c r2) hr p0 p1 y0 y1 u0 u1 w hx h1 h2 _ hd hf hfp v HL).mono post
      · exact (c78_13t L.b rd r1 r2 imm (s.c 32) (s.c r1) (s.c r2) hr p0 p1 y0 y1 u0 u1 w hx h1 h2 _ hd hf hfp v HL).mono post
      · exact (c78_14t L.b rd r1 r2 imm (s.c 32) (s.c r1) (s.c r2) hr p0 p1 y0 y1 u0 u1 w hx h1 h2 _ hd hf hfp v HL).mono post
      · exact (c78_15t L.b rd r1 r2 imm (s.c 32) (s.c r1) (s.c r2) hr p0 p1 y0 y1 u0 u1 w hx h1 h2 _ hd hf hfp v HL).mono post
    | false =>
      have post : ∀ e w', (e = Ending.returned (.bool false) ∧ Fr (fun _ => False) w w') → e = .returned (.bool false) ∧ Okay base L lv w w' s := by
        rintro e w' ⟨rfl, hg⟩
        exact ⟨rfl, Okay.quiet h hw hg⟩
      rcases hc with rfl | rfl | rfl | rfl | rfl
      · exact (c78_11f L.b rd r1 r2 imm (s.c 32) (s.c r1) (s.c r2) hr p0 p1 y0 y1 u0 u1 w hx h1 h2 _ hd hf hfp v HL).mono post
      · exact (c78_12f L.b rd r1 r2 imm (s.c 32) (s.c r1) (s.c r2) hr p0 p1 y0 y1 u0 u1 w hx h1 h2 _ hd hf hfp v HL).mono post
      · exact (c78_13f L.b rd r1 r2 imm (s.c 32) (s.c r1) (s.c r2) hr p0 p1 y0 y1 u0 u1 w hx h1 h2 _ hd hf hfp v HL).mono post
      · exact (c78_14f L.b rd r1 r2 imm (s.c 32) (s.c r1) (s.c r2) hr p0 p1 y0 y1 u0 u1 w hx h1 h2 _ hd hf hfp v HL).mono post
      · exact (c78_15f L.b rd r1 r2 imm (s.c 32) (s.c r1) (s.c r2) hr p0 p1 y0 y1 u0 u1 w hx h1 h2 _ hd hf hfp v HL).mono post
  by_cases e18 : op ≤ 18
  · have ee : exec5 L op rd r1 r2 imm s = (storeM L s op ((s.c r1 + imm) % 4294967296) (s.c r2)).map fun t => { t with c := updN t.c 32 ((s.c 32 + 4) % 4294967296) } := by
      unfold exec5; rw [if_neg e0, if_neg e1, if_neg e2, if_neg e3, if_neg e4, if_neg e10, if_neg e15, if_pos e18]
    rw [ee]
    have hc : op = 16 ∨ op = 17 ∨ op = 18 := by omega
    cases hs : storeM L s op ((s.c r1 + imm) % 4294967296) (s.c r2) with
    | some t =>
      have HL : Hid (∀ w1, Fr (fun _ => False) w w1 → Calls Try.prog 86 #[.pointer (some ⟨L.b, 0, none⟩), .int .i64 op, .int .u32 ((s.c r1 + imm) % 4294967296), .int .u32 (s.c r2)] w1 fun e w' => e = .returned (.bool true) ∧ Okay base L lv w w' t) :=
        Lib.hid (fun w1 hf => (store_at (h.grown0 hf) hw hl op _ _ (by omega) m3.1 m3.2 u0 u1).mono (by
          rintro e w' ⟨rfl, hk⟩
          rw [hs] at hk ⊢
          exact ⟨rfl, Okay.before hf hk⟩))
      have hSc : Hid (∀ w2, Okay base L lv w w2 t → w2.cell? ⟨L.b, 32, none⟩ = some (.int .u32 (s.c 32)) ∧ w2.frozen? ⟨L.b, 32, none⟩ = false) :=
        Lib.hid (fun w2 ⟨lv', a, f, _, _⟩ => ⟨by rw [← storeM_pc hs]; exact a.num 32 (.inl (by decide)), a.free 32 (by decide)⟩)
      have post : ∀ e w', (e = Ending.returned (.bool true) ∧ ∃ w2, Okay base L lv w w2 t ∧ w' = w2.setCell ⟨L.b, 32, none⟩ (.int .u32 ((s.c 32 + 4) % 4294967296))) →
          e = .returned (.bool true) ∧ Okay base L lv w w' { t with c := updN t.c 32 ((s.c 32 + 4) % 4294967296) } := by
        rintro e w' ⟨rfl, w2, hk, rfl⟩
        exact ⟨rfl, hk.trans fun _ a f => Okay.setNum a f 32 (.inl (by decide)) _ m1.1 (fun _ => m1.2)⟩
      rcases hc with rfl | rfl | rfl
      · exact (c78_16t L.b rd r1 r2 imm (s.c 32) (s.c r1) (s.c r2) hr p0 p1 y0 y1 u0 u1 w hx h1 h2 _ hd hf hfp _ hSc HL).mono post
      · exact (c78_17t L.b rd r1 r2 imm (s.c 32) (s.c r1) (s.c r2) hr p0 p1 y0 y1 u0 u1 w hx h1 h2 _ hd hf hfp _ hSc HL).mono post
      · exact (c78_18t L.b rd r1 r2 imm (s.c 32) (s.c r1) (s.c r2) hr p0 p1 y0 y1 u0 u1 w hx h1 h2 _ hd hf hfp _ hSc HL).mono post
    | none =>
      have HL : Hid (∀ w1, Fr (fun _ => False) w w1 → Calls Try.prog 86 #[.pointer (some ⟨L.b, 0, none⟩), .int .i64 op, .int .u32 ((s.c r1 + imm) % 4294967296), .int .u32 (s.c r2)] w1 fun e w' => e = .returned (.bool false) ∧ Okay base L lv w w' s) :=
        Lib.hid (fun w1 hf => (store_at (h.grown0 hf) hw hl op _ _ (by omega) m3.1 m3.2 u0 u1).mono (by
          rintro e w' ⟨rfl, hk⟩
          rw [hs] at hk ⊢
          exact ⟨rfl, Okay.before hf hk⟩))
      have hSc : Hid (∀ w2, Okay base L lv w w2 s → w2.cell? ⟨L.b, 32, none⟩ = some (.int .u32 (s.c 32)) ∧ w2.frozen? ⟨L.b, 32, none⟩ = false) :=
        Lib.hid (fun w2 ⟨lv', a, f, _, _⟩ => ⟨a.num 32 (.inl (by decide)), a.free 32 (by decide)⟩)
      have post : ∀ e w', (e = Ending.returned (.bool false) ∧ Okay base L lv w w' s) → e = .returned (.bool false) ∧ Okay base L lv w w' s := fun e w' h => h
      rcases hc with rfl | rfl | rfl
      · exact (c78_16f L.b rd r1 r2 imm (s.c 32) (s.c r1) (s.c r2) hr p0 p1 y0 y1 u0 u1 w hx h1 h2 _ hd hf hfp _ hSc HL).mono post
      · exact (c78_17f L.b rd r1 r2 imm (s.c 32) (s.c r1) (s.c r2) hr p0 p1 y0 y1 u0 u1 w hx h1 h2 _ hd hf hfp _ hSc HL).mono post
      · exact (c78_18f L.b rd r1 r2 imm (s.c 32) (s.c r1) (s.c r2) hr p0 p1 y0 y1 u0 u1 w hx h1 h2 _ hd hf hfp _ hSc HL).mono post
  have ee : exec5 L op rd r1 r2 imm s = some { s with c := updN (setR s.c rd (compF op (s.c r1) (s.c r2) (imm % 4294967296))) 32 ((s.c 32 + 4) % 4294967296) } := by
    unfold exec5; rw [if_neg e0, if_neg e1, if_neg e2, if_neg e3, if_neg e4, if_neg e10, if_neg e15, if_neg e18]
  rw [ee]
  refine (c78_comp L.b rd r1 r2 op imm (s.c 32) (s.c r1) (s.c r2) (by omega) y0 y1 u0 u1 hr p0 p1 w hx h1 h2 _ hd hf hfp).mono ?_
  rintro e w' ⟨rfl, w2, hg, rfl⟩
  exact ⟨rfl, fin_set h hw (Fr.of_by0 hg) hr.1 (compF_in y0 y1 u0 u1 (mod_in _).1 (mod_in _).2) m1⟩
end Go.Proofs.Ytipfefkddnogjaa
