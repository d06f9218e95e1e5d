/-
  The contract of execute (layer 3), every instruction, over a machine that lies in a world. The contracts of fetch, advance and Fail (layer 3) over a machine that lies in a world.
-/
import Derived.Test.YthhahfggbjegmaaGreatQDevR
import Derived.Test.YthhahfggbjegmaaGreatQDevCc
import Derived.Test.YthhahfggbjegmaaGreatQDevU
import Derived.Test.YthhahfggbjegmaaGreatQDevY
import Derived.Test.YthhahfggbjegmaaGreatQDevZ
namespace Go.Proofs.YthhahfggbjegmaaGreat
open Go.RowKit
set_option linter.unusedVariables false
set_option linter.unusedSimpArgs false
theorem bits_in (o : BinOp) (x y : Int) : 0 ≤ bits o .u32 x y ∧ bits o .u32 x y ≤ 4294967295 := wf_u32 (wf_bits o .u32 x y)
theorem less_in (a b : Int) : 0 ≤ lessF a b ∧ lessF a b ≤ 4294967295 := by unfold lessF; split <;> omega
theorem lessU_in (a b : Int) : 0 ≤ lessUF a b ∧ lessUF a b ≤ 4294967295 := by unfold lessUF; split <;> omega
theorem right_in {a : Int} (b : Int) (h0 : 0 ≤ a) (h1 : a ≤ 4294967295) : 0 ≤ rightF a b ∧ rightF a b ≤ 4294967295 := by
  unfold rightF
  have := pw_lo b
  have e1 := Int.ediv_nonneg h0 (show 0 ≤ pw b by omega)
  have e2 := Int.ediv_le_self (pw b) h0
  omega
theorem multF_in {op a b : Int} (h0 : 0 ≤ a) (h1 : a ≤ 4294967295) (g0 : 0 ≤ b) (g1 : b ≤ 4294967295) : 0 ≤ multF op a b ∧ multF op a b ≤ 4294967295 := by
  unfold multF
  split; · exact mod_in _
  split; · exact mod_in _
  split; · exact mod_in _
  split; · exact highUF_in h0 h1 g0 g1
  split
  · unfold divF; split
    · omega
    · exact mod_in _
  split
  · unfold divUF; split
    · omega
    · exact divU_in h0 h1 g0
  split
  · unfold remF; split
    · omega
    · exact mod_in _
  · unfold remUF; split
    · omega
    · exact remU_in (by omega) g1
theorem compF_in {op a b imm : Int} (h0 : 0 ≤ a) (h1 : a ≤ 4294967295) (g0 : 0 ≤ b) (g1 : b ≤ 4294967295) (i0 : 0 ≤ imm) (i1 : imm ≤ 4294967295) : 0 ≤ compF op a b imm ∧ compF op a b imm ≤ 4294967295 := by
  unfold compF
  have hb : 0 ≤ (if op ≤ 27 then imm else b) ∧ (if op ≤ 27 then imm else b) ≤ 4294967295 := by split <;> omega
  generalize (if op ≤ 27 then imm else b) = y at hb
  obtain ⟨y0, y1⟩ := hb
  unfold longF
  split; · exact mod_in _
  split; · exact mod_in _
  split; · exact mod_in _
  split; · exact less_in _ _
  split; · exact lessU_in _ _
  split; · exact bits_in _ _ _
  split; · exact right_in _ h0 h1
  split; · exact mod_in _
  split; · exact bits_in _ _ _
  split; · exact bits_in _ _ _
  exact multF_in h0 h1 y0 y1
theorem kind_reg {r : Nat} (hr : r < 32) : kindAt r = .u32 := by unfold kindAt; rw [if_neg (by omega), if_neg (by omega)]
theorem At.reg {base : Nat} {w : World} {L : Lay} {lv : Value} {s : MSt} (h : At base w L lv s) {r : Nat} (hr : r < 32) : w.cell? ⟨L.b, r, none⟩ = some (.int .u32 (s.c r)) := by
  have := h.num r (.inl (by omega)); rwa [kind_reg hr] at this
theorem At.regb {base : Nat} {w : World} {L : Lay} {lv : Value} {s : MSt} (h : At base w L lv s) {r : Nat} (hr : r < 32) : 0 ≤ s.c r ∧ s.c r ≤ 4294967295 :=
  ⟨h.bw r (.inl (by omega)), h.bu r (.inl (by omega)) (kind_reg hr)⟩
theorem fin_set {base : Nat} {L : Lay} {lv : Value} {s : MSt} {w w2 : World} (h : At base w L lv s) (hw : Wf base L lv) (hf : Fr (fun _ => False) w w2) {rd : Nat} (hr : rd < 32) {v p : Int} (v0 : 0 ≤ v ∧ v ≤ 4294967295) (p0 : 0 ≤ p ∧ p ≤ 4294967295) :
    Okay base L lv w ((YthhahfggbjegmaaGreat.setW w2 L.b rd v).setCell ⟨L.b, 32, none⟩ (.int .u32 p)) { s with c := updN (setR s.c rd v) 32 p } :=
  Okay.before hf ((Okay.setW (h.grown0 hf) hw rd hr v v0.1 v0.2).trans fun _ a f => Okay.setNum a f 32 (.inl (by decide)) p p0.1 (fun _ => p0.2))
theorem fin_pc {base : Nat} {L : Lay} {lv : Value} {s : MSt} {w w2 : World} (h : At base w L lv s) (hw : Wf base L lv) (hf : Fr (fun _ => False) w w2) {p : Int} (p0 : 0 ≤ p ∧ p ≤ 4294967295) :
    Okay base L lv w (w2.setCell ⟨L.b, 32, none⟩ (.int .u32 p)) { s with c := updN s.c 32 p } :=
  Okay.before hf (Okay.setNum (h.grown0 hf) hw 32 (.inl (by decide)) p p0.1 (fun _ => p0.2))
theorem storeM_pc {L : Lay} {s t : MSt} {op a v : Int} (h : storeM L s op a v = some t) : t.c 32 = s.c 32 := by
  unfold storeM at h
  (repeat' split at h) <;> simp only [Option.some.injEq, reduceCtorEq] at h <;> subst h <;> simp [updN]
theorem exec_at {base : Nat} {L : Lay} {lv : Value} {s : MSt} {w : World} (h : At base w L lv s) (hw : Wf base L lv) (hl : s.log.length < 900000) (op imm : Int) (rd r1 r2 : Nat) (ho : 0 ≤ op ∧ op ≤ 45) (hr : rd < 32 ∧ r1 < 32 ∧ r2 < 32) :
    Calls Tryz.prog 34 #[.pointer (some ⟨L.b, 0, none⟩), .agg #[.int .i64 op, .int .i64 rd, .int .i64 r1, .int .i64 r2, .int .i64 imm]] w fun e w' =>
      e = .returned (.bool (exec5 L op rd r1 r2 imm s).isSome) ∧ Okay base L lv w w' ((exec5 L op rd r1 r2 imm s).getD s) := by
  have hx : w.cell? ⟨L.b, 32, none⟩ = some (.int .u32 (s.c 32)) := h.num 32 (.inl (by decide))
  have p0 := h.bw 32 (.inl (by decide))
  have p1 := h.bu 32 (.inl (by decide)) rfl
  have hd := h.reg hr.1
  have h1 := h.reg hr.2.1
  have h2 := h.reg hr.2.2
  obtain ⟨y0, y1⟩ := h.regb hr.2.1
  obtain ⟨u0, u1⟩ := h.regb hr.2.2
  have hf := h.free rd (by omega)
  have hfp := h.free 32 (by decide)
  have m1 : 0 ≤ (s.c 32 + 4) % 4294967296 ∧ (s.c 32 + 4) % 4294967296 ≤ 4294967295 := mod_in _
  have m2 : 0 ≤ (s.c 32 + imm) % 4294967296 ∧ (s.c 32 + imm) % 4294967296 ≤ 4294967295 := mod_in _
  have m3 : 0 ≤ (s.c r1 + imm) % 4294967296 ∧ (s.c r1 + imm) % 4294967296 ≤ 4294967295 := mod_in _
  by_cases e0 : op = 0
  · subst e0
    refine (dv78_0 L.b rd r1 r2 imm (s.c 32) (s.c r1) (s.c r2) hr p0 p1 w hx h1 h2).mono ?_
    rintro e w' ⟨rfl, hg⟩
    exact ⟨rfl, Okay.quiet h hw (Fr.of_by0 hg)⟩
  by_cases e1 : op = 1
  · subst e1
    refine (dv78_1 L.b rd r1 r2 imm (s.c 32) (s.c r1) (s.c r2) hr p0 p1 w hx h1 h2 _ hd hf hfp).mono ?_
    rintro e w' ⟨rfl, wI, j, hg, rfl⟩
    exact ⟨rfl, fin_set h hw (Fr.of_by0 (byDrewN hg j)) hr.1 (mod_in _) m1⟩
  by_cases e2 : op = 2
  · subst e2
    refine (dv78_2 L.b rd r1 r2 imm (s.c 32) (s.c r1) (s.c r2) hr p0 p1 y0 y1 u0 u1 w hx h1 h2 _ hd hf hfp).mono ?_
    rintro e w' ⟨rfl, wI, j, hg, rfl⟩
    exact ⟨rfl, fin_set h hw (Fr.of_by0 (byDrewN hg j)) hr.1 m2 m1⟩
  by_cases e3 : op = 3
  · subst e3
    refine (dv78_3 L.b rd r1 r2 imm (s.c 32) (s.c r1) (s.c r2) hr p0 p1 y0 y1 u0 u1 w hx h1 h2 _ hd hf hfp).mono ?_
    rintro e w' ⟨rfl, wI, j, hg, rfl⟩
    exact ⟨rfl, fin_set h hw (Fr.of_by0 (byDrewN hg j)) hr.1 m1 m2⟩
  by_cases e4 : op = 4
  · subst e4
    refine (dv78_4 L.b rd r1 r2 imm (s.c 32) (s.c r1) (s.c r2) hr p0 p1 y0 y1 u0 u1 w hx h1 h2 _ hd hf hfp).mono ?_
    rintro e w' ⟨rfl, wI, j, hg, rfl⟩
    rw [even_of m3.1 m3.2]
    exact ⟨rfl, fin_set h hw (Fr.of_by0 (byDrewN hg j)) hr.1 m1 (by omega)⟩
  have n4 : ¬ op ≤ 4 := by omega
  by_cases e10 : op ≤ 10
  · have ee : exec5 L op rd r1 r2 imm s = some { s with c := updN s.c 32 (if holdsF op (s.c r1) (s.c r2) = true then (s.c 32 + imm) % 4294967296 else (s.c 32 + 4) % 4294967296) } := by
      unfold exec5; rw [if_neg e0, if_neg e1, if_neg e2, if_neg e3, if_neg e4, if_pos e10]
    rw [ee]
    have hc : op = 5 ∨ op = 6 ∨ op = 7 ∨ op = 8 ∨ op = 9 ∨ op = 10 := by omega
    cases ht : holdsF op (s.c r1) (s.c r2) with
    | true =>
      have post : ∀ e w', (e = Ending.returned (.bool true) ∧ ∃ wI j, w.grownBy wI none ∧ w' = (wI.drewN j).setCell ⟨L.b, 32, none⟩ (.int .u32 ((s.c 32 + imm) % 4294967296))) →
          e = .returned (.bool true) ∧ Okay base L lv w w' { s with c := updN s.c 32 ((s.c 32 + imm) % 4294967296) } := by
        rintro e w' ⟨rfl, wI, j, hg, rfl⟩
        exact ⟨rfl, fin_pc h hw (Fr.of_by0 (byDrewN hg j)) m2⟩
      rcases hc with rfl | rfl | rfl | rfl | rfl | rfl
      · exact (dv78_5t L.b rd r1 r2 imm (s.c 32) (s.c r1) (s.c r2) hr p0 p1 y0 y1 u0 u1 w hx h1 h2 _ hd hf hfp ht).mono post
      · exact (dv78_6t L.b rd r1 r2 imm (s.c 32) (s.c r1) (s.c r2) hr p0 p1 y0 y1 u0 u1 w hx h1 h2 _ hd hf hfp ht).mono post
      · exact (dv78_7t L.b rd r1 r2 imm (s.c 32) (s.c r1) (s.c r2) hr p0 p1 y0 y1 u0 u1 w hx h1 h2 _ hd hf hfp ht).mono post
      · exact (dv78_8t L.b rd r1 r2 imm (s.c 32) (s.c r1) (s.c r2) hr p0 p1 y0 y1 u0 u1 w hx h1 h2 _ hd hf hfp ht).mono post
      · exact (dv78_9t L.b rd r1 r2 imm (s.c 32) (s.c r1) (s.c r2) hr p0 p1 y0 y1 u0 u1 w hx h1 h2 _ hd hf hfp ht).mono post
      · exact (dv78_10t L.b rd r1 r2 imm (s.c 32) (s.c r1) (s.c r2) hr p0 p1 y0 y1 u0 u1 w hx h1 h2 _ hd hf hfp ht).mono post
    | false =>
      have post : ∀ e w', (e = Ending.returned (.bool true) ∧ ∃ wI j, w.grownBy wI none ∧ w' = (wI.drewN j).setCell ⟨L.b, 32, none⟩ (.int .u32 ((s.c 32 + 4) % 4294967296))) →
          e = .returned (.bool true) ∧ Okay base L lv w w' { s with c := updN s.c 32 ((s.c 32 + 4) % 4294967296) } := by
        rintro e w' ⟨rfl, wI, j, hg, rfl⟩
        exact ⟨rfl, fin_pc h hw (Fr.of_by0 (byDrewN hg j)) m1⟩
      rcases hc with rfl | rfl | rfl | rfl | rfl | rfl
      · exact (dv78_5f L.b rd r1 r2 imm (s.c 32) (s.c r1) (s.c r2) hr p0 p1 y0 y1 u0 u1 w hx h1 h2 _ hd hf hfp ht).mono post
      · exact (dv78_6f L.b rd r1 r2 imm (s.c 32) (s.c r1) (s.c r2) hr p0 p1 y0 y1 u0 u1 w hx h1 h2 _ hd hf hfp ht).mono post
      · exact (dv78_7f L.b rd r1 r2 imm (s.c 32) (s.c r1) (s.c r2) hr p0 p1 y0 y1 u0 u1 w hx h1 h2 _ hd hf hfp ht).mono post
      · exact (dv78_8f L.b rd r1 r2 imm (s.c 32) (s.c r1) (s.c r2) hr p0 p1 y0 y1 u0 u1 w hx h1 h2 _ hd hf hfp ht).mono post
      · exact (dv78_9f L.b rd r1 r2 imm (s.c 32) (s.c r1) (s.c r2) hr p0 p1 y0 y1 u0 u1 w hx h1 h2 _ hd hf hfp ht).mono post
      · exact (dv78_10f L.b rd r1 r2 imm (s.c 32) (s.c r1) (s.c r2) hr p0 p1 y0 y1 u0 u1 w hx h1 h2 _ hd hf hfp ht).mono post
  by_cases e15 : op ≤ 15
  · have ee : exec5 L op rd r1 r2 imm s = (loadM L s op ((s.c r1 + imm) % 4294967296)).map fun v => { s with c := updN (setR s.c rd v) 32 ((s.c 32 + 4) % 4294967296) } := by
      unfold exec5; rw [if_neg e0, if_neg e1, if_neg e2, if_neg e3, if_neg e4, if_neg e10, if_pos e15]
    rw [ee]
    have hc : op = 11 ∨ op = 12 ∨ op = 13 ∨ op = 14 ∨ op = 15 := by omega
    obtain ⟨v, ok, v0, v1, hv, hL⟩ := load_at h hw op _ (by omega) m3.1 m3.2
    rw [hv]
    have HL : Hid (∀ w1, Fr (fun _ => False) w w1 → Calls Tryz.prog 57 #[.pointer (some ⟨L.b, 0, none⟩), .int .i64 op, .int .u32 ((s.c r1 + imm) % 4294967296)] w1 fun e w' => e = .returned (.tuple #[.int .u32 v, .bool ok]) ∧ Fr (fun _ => False) w1 w') :=
      Lib.hid (fun w1 hf => hL w1 (h.grown0 hf))
    cases ok with
    | true =>
      have post : ∀ e w', (e = Ending.returned (.bool true) ∧ ∃ w2, Fr (fun _ => False) w w2 ∧ w' = (YthhahfggbjegmaaGreat.setW w2 L.b rd v).setCell ⟨L.b, 32, none⟩ (.int .u32 ((s.c 32 + 4) % 4294967296))) →
          e = .returned (.bool true) ∧ Okay base L lv w w' { s with c := updN (setR s.c rd v) 32 ((s.c 32 + 4) % 4294967296) } := by
        rintro e w' ⟨rfl, w2, hg, rfl⟩
        exact ⟨rfl, fin_set h hw hg hr.1 ⟨v0, v1⟩ m1⟩
      rcases hc with rfl | rfl | rfl | rfl | rfl
      · exact (dv78_11t L.b rd r1 r2 imm (s.c 32) (s.c r1) (s.c r2) hr p0 p1 y0 y1 u0 u1 w hx h1 h2 _ hd hf hfp v HL).mono post
      · exact (dv78_12t L.b rd r1 r2 imm (s.c 32) (s.c r1) (s.c r2) hr p0 p1 y0 y1 u0 u1 w hx h1 h2 _ hd hf hfp v HL).mono post
      · exact (dv78_13t L.b rd r1 r2 imm (s.c 32) (s.c r1) (s.c r2) hr p0 p1 y0 y1 u0 u1 w hx h1 h2 _ hd hf hfp v HL).mono post
      · exact (dv78_14t L.b rd r1 r2 imm (s.c 32) (s.c r1) (s.c r2) hr p0 p1 y0 y1 u0 u1 w hx h1 h2 _ hd hf hfp v HL).mono post
      · exact (dv78_15t L.b rd r1 r2 imm (s.c 32) (s.c r1) (s.c r2) hr p0 p1 y0 y1 u0 u1 w hx h1 h2 _ hd hf hfp v HL).mono post
    | false =>
      have post : ∀ e w', (e = Ending.returned (.bool false) ∧ Fr (fun _ => False) w w') → e = .returned (.bool false) ∧ Okay base L lv w w' s := by
        rintro e w' ⟨rfl, hg⟩
        exact ⟨rfl, Okay.quiet h hw hg⟩
      rcases hc with rfl | rfl | rfl | rfl | rfl
      · exact (dv78_11f L.b rd r1 r2 imm (s.c 32) (s.c r1) (s.c r2) hr p0 p1 y0 y1 u0 u1 w hx h1 h2 _ hd hf hfp v HL).mono post
      · exact (dv78_12f L.b rd r1 r2 imm (s.c 32) (s.c r1) (s.c r2) hr p0 p1 y0 y1 u0 u1 w hx h1 h2 _ hd hf hfp v HL).mono post
      · exact (dv78_13f L.b rd r1 r2 imm (s.c 32) (s.c r1) (s.c r2) hr p0 p1 y0 y1 u0 u1 w hx h1 h2 _ hd hf hfp v HL).mono post
      · exact (dv78_14f L.b rd r1 r2 imm (s.c 32) (s.c r1) (s.c r2) hr p0 p1 y0 y1 u0 u1 w hx h1 h2 _ hd hf hfp v HL).mono post
      · exact (dv78_15f L.b rd r1 r2 imm (s.c 32) (s.c r1) (s.c r2) hr p0 p1 y0 y1 u0 u1 w hx h1 h2 _ hd hf hfp v HL).mono post
  by_cases e18 : op ≤ 18
  · have ee : exec5 L op rd r1 r2 imm s = (storeM L s op ((s.c r1 + imm) % 4294967296) (s.c r2)).map fun t => { t with c := updN t.c 32 ((s.c 32 + 4) % 4294967296) } := by
      unfold exec5; rw [if_neg e0, if_neg e1, if_neg e2, if_neg e3, if_neg e4, if_neg e10, if_neg e15, if_pos e18]
    rw [ee]
    have hc : op = 16 ∨ op = 17 ∨ op = 18 := by omega
    cases hs : storeM L s op ((s.c r1 + imm) % 4294967296) (s.c r2) with
    | some t =>
      have HL : Hid (∀ w1, Fr (fun _ => False) w w1 → Calls Tryz.prog 58 #[.pointer (some ⟨L.b, 0, none⟩), .int .i64 op, .int .u32 ((s.c r1 + imm) % 4294967296), .int .u32 (s.c r2)] w1 fun e w' => e = .returned (.bool true) ∧ Okay base L lv w w' t) :=
        Lib.hid (fun w1 hf => (store_at (h.grown0 hf) hw hl op _ _ (by omega) m3.1 m3.2 u0 u1).mono (by
          rintro e w' ⟨rfl, hk⟩
          rw [hs] at hk ⊢
          exact ⟨rfl, Okay.before hf hk⟩))
      have hSc : Hid (∀ w2, Okay base L lv w w2 t → w2.cell? ⟨L.b, 32, none⟩ = some (.int .u32 (s.c 32)) ∧ w2.frozen? ⟨L.b, 32, none⟩ = false) :=
        Lib.hid (fun w2 ⟨lv', a, f, _, _⟩ => ⟨by rw [← storeM_pc hs]; exact a.num 32 (.inl (by decide)), a.free 32 (by decide)⟩)
      have post : ∀ e w', (e = Ending.returned (.bool true) ∧ ∃ w2, Okay base L lv w w2 t ∧ w' = w2.setCell ⟨L.b, 32, none⟩ (.int .u32 ((s.c 32 + 4) % 4294967296))) →
          e = .returned (.bool true) ∧ Okay base L lv w w' { t with c := updN t.c 32 ((s.c 32 + 4) % 4294967296) } := by
        rintro e w' ⟨rfl, w2, hk, rfl⟩
        exact ⟨rfl, hk.trans fun _ a f => Okay.setNum a f 32 (.inl (by decide)) _ m1.1 (fun _ => m1.2)⟩
      rcases hc with rfl | rfl | rfl
      · exact (dv78_16t L.b rd r1 r2 imm (s.c 32) (s.c r1) (s.c r2) hr p0 p1 y0 y1 u0 u1 w hx h1 h2 _ hd hf hfp _ hSc HL).mono post
      · exact (dv78_17t L.b rd r1 r2 imm (s.c 32) (s.c r1) (s.c r2) hr p0 p1 y0 y1 u0 u1 w hx h1 h2 _ hd hf hfp _ hSc HL).mono post
      · exact (dv78_18t L.b rd r1 r2 imm (s.c 32) (s.c r1) (s.c r2) hr p0 p1 y0 y1 u0 u1 w hx h1 h2 _ hd hf hfp _ hSc HL).mono post
    | none =>
      have HL : Hid (∀ w1, Fr (fun _ => False) w w1 → Calls Tryz.prog 58 #[.pointer (some ⟨L.b, 0, none⟩), .int .i64 op, .int .u32 ((s.c r1 + imm) % 4294967296), .int .u32 (s.c r2)] w1 fun e w' => e = .returned (.bool false) ∧ Okay base L lv w w' s) :=
        Lib.hid (fun w1 hf => (store_at (h.grown0 hf) hw hl op _ _ (by omega) m3.1 m3.2 u0 u1).mono (by
          rintro e w' ⟨rfl, hk⟩
          rw [hs] at hk ⊢
          exact ⟨rfl, Okay.before hf hk⟩))
      have hSc : Hid (∀ w2, Okay base L lv w w2 s → w2.cell? ⟨L.b, 32, none⟩ = some (.int .u32 (s.c 32)) ∧ w2.frozen? ⟨L.b, 32, none⟩ = false) :=
        Lib.hid (fun w2 ⟨lv', a, f, _, _⟩ => ⟨a.num 32 (.inl (by decide)), a.free 32 (by decide)⟩)
      have post : ∀ e w', (e = Ending.returned (.bool false) ∧ Okay base L lv w w' s) → e = .returned (.bool false) ∧ Okay base L lv w w' s := fun e w' h => h
      rcases hc with rfl | rfl | rfl
      · exact (dv78_16f L.b rd r1 r2 imm (s.c 32) (s.c r1) (s.c r2) hr p0 p1 y0 y1 u0 u1 w hx h1 h2 _ hd hf hfp _ hSc HL).mono post
      · exact (dv78_17f L.b rd r1 r2 imm (s.c 32) (s.c r1) (s.c r2) hr p0 p1 y0 y1 u0 u1 w hx h1 h2 _ hd hf hfp _ hSc HL).mono post
      · exact (dv78_18f L.b rd r1 r2 imm (s.c 32) (s.c r1) (s.c r2) hr p0 p1 y0 y1 u0 u1 w hx h1 h2 _ hd hf hfp _ hSc HL).mono post
  have ee : exec5 L op rd r1 r2 imm s = some { s with c := updN (setR s.c rd (compF op (s.c r1) (s.c r2) (imm % 4294967296))) 32 ((s.c 32 + 4) % 4294967296) } := by
    unfold exec5; rw [if_neg e0, if_neg e1, if_neg e2, if_neg e3, if_neg e4, if_neg e10, if_neg e15, if_neg e18]
  rw [ee]
  refine (dv78_comp L.b rd r1 r2 op imm (s.c 32) (s.c r1) (s.c r2) (by omega) y0 y1 u0 u1 hr p0 p1 w hx h1 h2 _ hd hf hfp).mono ?_
  rintro e w' ⟨rfl, w2, hg, rfl⟩
  exact ⟨rfl, fin_set h hw (Fr.of_by0 hg) hr.1 (compF_in y0 y1 u0 u1 (mod_in _).1 (mod_in _).2) m1⟩
theorem fetch_at {base : Nat} {L : Lay} {lv : Value} {s : MSt} {w : World} (h : At base w L lv s) (hw : Wf base L lv) :
    Calls Tryz.prog 35 #[.pointer (some ⟨L.b, 0, none⟩)] w fun e w' => e = .returned (.agg #[.int .i64 ((fetchM L s).getD 0 0), .int .i64 ((fetchM L s).getD 1 0), .int .i64 ((fetchM L s).getD 2 0), .int .i64 ((fetchM L s).getD 3 0), .int .i64 ((fetchM L s).getD 4 0)]) ∧ Fr (fun _ => False) w w' := by
  have hx : w.cell? ⟨L.b, 32, none⟩ = some (.int .u32 (s.c 32)) := h.num 32 (.inl (by decide))
  have p0 := h.bw 32 (.inl (by decide))
  have p1 := h.bu 32 (.inl (by decide)) rfl
  by_cases ho : s.c 32 % 4 = 0
  · by_cases hn : s.c 32 / 4 < (L.code.length : Int)
    · have e : fetchM L s = L.code.getD (s.c 32 / 4).toNat [] := by unfold fetchM; rw [if_pos ⟨ho, hn⟩]
      rw [e]
      have hk : (s.c 32 / 4).toNat < L.code.length := by omega
      have e2 : s.c 32 = ((4 * (s.c 32 / 4).toNat : Nat) : Int) := by omega
      rw [e2] at hx
      have hi := h.insts _ hk
      refine (dv79_in L.b L.cb L.co L.code.length L.cc (s.c 32 / 4).toNat _ _ _ _ _ (by omega) w hx h.code hk (hi 0 (by decide)) (hi 1 (by decide)) (hi 2 (by decide)) (hi 3 (by decide)) (hi 4 (by decide))).mono ?_
      rintro e w' ⟨rfl, hg⟩
      exact ⟨rfl, Fr.of_by0 hg⟩
    · have e : fetchM L s = [0, 0, 0, 0, 0] := by unfold fetchM; rw [if_neg (fun q => hn q.2)]
      rw [e]
      refine (dv79_far L.b _ L.code.length L.cc (s.c 32) p0 p1 w hx h.code (by rw [ho]; rfl) (by omega)).mono ?_
      rintro e w' ⟨rfl, hg⟩
      exact ⟨rfl, Fr.of_by0 hg⟩
  · have e : fetchM L s = [0, 0, 0, 0, 0] := by unfold fetchM; rw [if_neg (fun q => ho q.1)]
    rw [e]
    refine (dv79_odd L.b _ L.code.length L.cc (s.c 32) p0 p1 w hx h.code (by rw [beq_eq_false_iff_ne]; exact ho)).mono ?_
    rintro e w' ⟨rfl, hg⟩
    exact ⟨rfl, Fr.of_by0 hg⟩
theorem exec_at' {base : Nat} {L : Lay} {lv : Value} {s : MSt} {w : World} (h : At base w L lv s) (hw : Wf base L lv) (hl : s.log.length < 900000) :
    Calls Tryz.prog 34 #[.pointer (some ⟨L.b, 0, none⟩), .agg #[.int .i64 ((fetchM L s).getD 0 0), .int .i64 ((fetchM L s).getD 1 0), .int .i64 ((fetchM L s).getD 2 0), .int .i64 ((fetchM L s).getD 3 0), .int .i64 ((fetchM L s).getD 4 0)]] w fun e w' =>
      e = .returned (.bool (execM L (fetchM L s) s).isSome) ∧ Okay base L lv w w' ((execM L (fetchM L s) s).getD s) := by
  obtain ⟨_, o0, o1, ⟨a0, a1⟩, ⟨b0, b1⟩, ⟨c0, c1⟩⟩ := fetch_ok hw.ok s
  have := exec_at h hw hl ((fetchM L s).getD 0 0) ((fetchM L s).getD 4 0) ((fetchM L s).getD 1 0).toNat ((fetchM L s).getD 2 0).toNat ((fetchM L s).getD 3 0).toNat ⟨o0, o1⟩ ⟨by omega, by omega, by omega⟩
  rw [Int.toNat_of_nonneg a0, Int.toNat_of_nonneg b0, Int.toNat_of_nonneg c0] at this
  exact this
theorem storeM_log {L : Lay} {s t : MSt} {op a v : Int} (h : storeM L s op a v = some t) : t.log.length ≤ s.log.length + 1 := by
  unfold storeM at h
  (repeat' split at h) <;> simp only [Option.some.injEq, reduceCtorEq] at h <;> subst h <;> simp
theorem exec5_log {L : Lay} {op imm : Int} {rd r1 r2 : Nat} {s t : MSt} (h : exec5 L op rd r1 r2 imm s = some t) : t.log.length ≤ s.log.length + 1 := by
  unfold exec5 at h
  split at h; · simp at h
  split at h; · simp only [Option.some.injEq] at h; subst h; simp
  split at h; · simp only [Option.some.injEq] at h; subst h; simp
  split at h; · simp only [Option.some.injEq] at h; subst h; simp
  split at h; · simp only [Option.some.injEq] at h; subst h; simp
  split at h; · simp only [Option.some.injEq] at h; subst h; simp
  split at h
  · simp only [Option.map_eq_some_iff] at h
    obtain ⟨v, _, rfl⟩ := h
    simp
  split at h
  · simp only [Option.map_eq_some_iff] at h
    obtain ⟨u, hu, rfl⟩ := h
    have := storeM_log hu
    simpa using this
  · simp only [Option.some.injEq] at h; subst h; simp
theorem adv_log {L : Lay} (hc : CodeOk L) {s : MSt} (h : (s.log.length : Int) ≤ s.c 39) : ((advM L s).log.length : Int) ≤ (advM L s).c 39 := by
  unfold advM
  split
  · rename_i t ht
    have h1 := exec5_log ht
    have h2 := exec5_steps (by have := (fetch_ok hc s).2.2.2.1; omega) ht
    show (t.log.length : Int) ≤ updN t.c 39 (t.c 39 + 1) 39
    rw [updN_same, h2]
    omega
  · show (s.log.length : Int) ≤ updN s.c 40 2 39
    rw [updN_other (by decide)]
    exact h
theorem advance_at {base : Nat} {L : Lay} {lv : Value} {s : MSt} {w : World} (h : At base w L lv s) (hw : Wf base L lv) (hl : (s.log.length : Int) ≤ s.c 39) (hn : s.c 39 ≤ 800000) :
    Calls Tryz.prog 26 #[.pointer (some ⟨L.b, 0, none⟩)] w fun e w' => e = .returned (.tuple #[]) ∧ Okay base L lv w w' (advM L s) := by
  have n0 := h.bw 39 (.inr (by decide))
  have H79 := Lib.hid (fetch_at h hw)
  cases hx : execM L (fetchM L s) s with
  | some t =>
    have hst : t.c 39 = s.c 39 := exec5_steps (by have := (fetch_ok hw.ok s).2.2.2.1; omega) hx
    have e : advM L s = { t with c := updN t.c 39 (t.c 39 + 1) } := by unfold advM; rw [hx]
    rw [e, hst]
    refine (dv60_yes L.b _ _ _ _ _ (s.c 39) n0 (by omega) (Fr (fun _ => False) w) (fun w' => Okay base L lv w w' t) w H79 (Lib.hid fun w1 h1 => (exec_at' (h.grown0 h1) hw (by omega)).mono ?_) (Lib.hid fun w2 ⟨lv', a, f, _, _⟩ => ⟨by rw [← hst]; exact a.num 39 (.inr (by decide)), a.free 39 (by decide)⟩)).mono ?_
    · rintro e w' ⟨rfl, hk⟩
      rw [hx] at hk ⊢
      exact ⟨rfl, Okay.before h1 hk⟩
    · rintro e w' ⟨rfl, w2, hk, rfl⟩
      exact ⟨rfl, hk.trans fun _ a f => Okay.setNum a f 39 (.inr (by decide)) _ (by omega) (fun e => by cases e)⟩
  | none =>
    have e : advM L s = { s with c := updN s.c 40 2 } := by unfold advM; rw [hx]
    rw [e]
    refine (dv60_no L.b _ _ _ _ _ (s.c 40) (Fr (fun _ => False) w) (fun w' => Okay base L lv w w' s) w H79 (Lib.hid fun w1 h1 => (exec_at' (h.grown0 h1) hw (by omega)).mono ?_) (Lib.hid fun w2 ⟨lv', a, f, _, _⟩ => ⟨a.num 40 (.inr (by decide)), a.free 40 (by decide)⟩)).mono ?_
    · rintro e w' ⟨rfl, hk⟩
      rw [hx] at hk ⊢
      exact ⟨rfl, Okay.before h1 hk⟩
    · rintro e w' ⟨rfl, w2, hk, rfl⟩
      exact ⟨rfl, hk.trans fun _ a f => Okay.setNum a f 40 (.inr (by decide)) _ (by decide) (fun e => by cases e)⟩
theorem Fr.setCells {F : Nat → Prop} {b : Nat} (hF : F b) : ∀ (vs : List Value) (o : Nat) (w : World), Fr F w (w.setCells b o vs)
  | [], _, w => Fr.refl _ _
  | v :: r, o, w => (Fr.setCell w ⟨b, o, none⟩ v hF).trans (Fr.setCells hF r (o + 1) _)
theorem fail_at {base : Nat} {L : Lay} {lv : Value} {s : MSt} {w : World} (h : At base w L lv s) (hw : Wf base L lv) (h0 : s.c 40 = 0) :
    Calls Tryz.prog 19 #[.pointer (some ⟨L.b, 0, none⟩)] w fun e w' => e = .returned (.tuple #[]) ∧ Okay base L lv w w' (failM s) := by
  have h40 : w.cell? ⟨L.b, 40, none⟩ = some (.int .i64 0) := by rw [← h0]; exact h.num 40 (.inr (by decide))
  have ht : w.there L.b 0 35 := fun j hj => ⟨by rw [Nat.zero_add, h.num j (.inl hj)]; rfl, by rw [Nat.zero_add]; exact h.free j (by omega)⟩
  refine (dv55 L.b w h40 ht).mono ?_
  rintro e w' ⟨rfl, rfl⟩
  refine ⟨rfl, ?_⟩
  have hin : ∀ o, o < 35 → (w.setCells L.b 0 zeros35).cell? ⟨L.b, o, none⟩ = some (.int .u32 0) := fun o ho => by
    have := World.cell?_setCells_in L.b zeros35 0 w (fun j hj => (ht j (by simpa [zeros35] using hj)).1) o (by simpa [zeros35] using ho)
    rw [Nat.zero_add] at this
    rw [this]
    simp only [zeros35, List.getElem_replicate]
  have hout : ∀ b o, (b = L.b → 35 ≤ o) → (w.setCells L.b 0 zeros35).cell? ⟨b, o, none⟩ = w.cell? ⟨b, o, none⟩ := fun b o hb =>
    World.cell?_setCells_out L.b zeros35 0 w ⟨b, o, none⟩ (fun e _ => .inr (by have := hb e; simpa [zeros35] using this))
  have hfr : ∀ a, (w.setCells L.b 0 zeros35).frozen? a = w.frozen? a := fun a => World.frozen?_setCells _ _ _ _ _
  have hF : Fr (fun k => k = L.b) w (w.setCells L.b 0 zeros35) := Fr.setCells (F := fun k => k = L.b) rfl _ _ _
  refine ⟨lv, ⟨fun o ho => ?_, ?_, ?_, ?_, ?_, hF.owns h.own (fun k hk e => (hw.lb k hk).1 e), fun o ho => (hfr _).trans (h.free o ho), fun k hk => ?_, fun k hk => (hfr _).trans (h.dfree k hk), fun k hk j hj => ?_, fun k hk => ?_, fun o ho => ?_, fun o ho hk => ?_, h.bd, Nat.le_trans h.bb hF.size, fun a ha => Nat.lt_of_lt_of_le (h.ilt a ha) hF.size⟩, hw, hF.mono (fun k _ e => .inl e), fun g hg => .inl hg⟩
  · show _ = some (Value.int (kindAt o) (if o < 35 then 0 else s.c o))
    by_cases h35 : o < 35
    · rw [hin o h35, if_pos h35]
      have : kindAt o = .u32 := by unfold kindAt; rw [if_neg (by omega), if_neg (by omega)]
      rw [this]
    · rw [hout _ _ (fun _ => by omega), if_neg h35]; exact h.num o ho
  · rw [hout _ _ (fun _ => by omega)]; exact h.code
  · rw [hout _ _ (fun _ => by omega)]; exact h.dat
  · rw [hout _ _ (fun _ => by omega)]; exact h.inp
  · rw [hout _ _ (fun _ => by omega)]; exact h.logv
  · rw [hout _ _ (fun e => absurd e hw.db)]; exact h.byte k hk
  · rw [hout _ _ (fun e => absurd e hw.cb)]; exact h.insts k hk j hj
  · obtain ⟨b, o, e, hc⟩ := h.inputs k hk
    exact ⟨b, o, e, by rw [hout _ _ (fun q => absurd q (hw.ib ⟨b, o, none⟩ e).1)]; exact hc⟩
  · show 0 ≤ (if o < 35 then 0 else s.c o)
    split
    · exact Int.le_refl _
    · exact h.bw o ho
  · show (if o < 35 then 0 else s.c o) ≤ 4294967295
    split
    · decide
    · exact h.bu o ho hk
end Go.Proofs.YthhahfggbjegmaaGreat
