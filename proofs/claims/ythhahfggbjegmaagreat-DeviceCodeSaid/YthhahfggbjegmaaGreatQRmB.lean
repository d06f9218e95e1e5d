/-
  The document's own machine (layer 3): where it lies, and what each kind of write makes of it. Loads of the document's own machine (layer 3). Loads of the document's own machine that lies in a world (layer 3).
-/
import Derived.Test.YthhahfggbjegmaaGreatQDevR
import Derived.Test.YthhahfggbjegmaaGreatQDevGg
import Derived.Test.YthhahfggbjegmaaGreatQRmA
import Derived.Test.YthhahfggbjegmaaGreatQTab
namespace Go.Proofs.YthhahfggbjegmaaGreat
open Go.RowKit
set_option linter.unusedVariables false
set_option linter.unusedSimpArgs false
structure RLay where
  rb : Nat
  db : Nat
  dc : Nat
  dn : Nat
  cc : Nat
  ic : Nat
  ca : Option Addr
  ia : Option Addr
  ws : List Int
  ins : List Int
def isR (o : Nat) : Prop := o = 4 ∨ o = 5 ∨ o = 6 ∨ o = 8 ∨ o = 9 ∨ o = 10
def rkind (o : Nat) : IntKind := if o = 4 then .i64 else if o = 8 then .i64 else if o = 9 then .i64 else .u32
def ridx (o : Nat) : Nat := if o = 4 then 32 else if o = 5 then 33 else if o = 6 then 34 else if o = 8 then 39 else if o = 9 then 40 else 41
structure RAt (base : Nat) (w : World) (R : RLay) (gb : Nat) (lv : Value) (s : MSt) : Prop where
  num : ∀ o, isR o → w.cell? ⟨R.rb, o, none⟩ = some (.int (rkind o) (s.c (ridx o)))
  code : w.cell? ⟨R.rb, 0, none⟩ = some (.slice R.ca R.ws.length R.cc)
  dat : w.cell? ⟨R.rb, 1, none⟩ = some (.slice (some ⟨R.db, 0, none⟩) R.dn R.dc)
  inp : w.cell? ⟨R.rb, 2, none⟩ = some (.slice R.ia R.ins.length R.ic)
  regs : w.cell? ⟨R.rb, 3, none⟩ = some (.slice (some ⟨gb, 0, none⟩) 32 32)
  logv : w.cell? ⟨R.rb, 7, none⟩ = some lv
  own : w.ownsRow base 64 2 lv s.log.length (recCells s.log)
  free : ∀ o, o < 11 → w.frozen? ⟨R.rb, o, none⟩ = false
  reg : ∀ r, r < 32 → w.cell? ⟨gb, r, none⟩ = some (.int .u32 (s.c r))
  gfree : ∀ r, r < 32 → w.frozen? ⟨gb, r, none⟩ = false
  byte : ∀ k, k < R.dn → w.cell? ⟨R.db, k, none⟩ = some (.int .u8 (s.data k))
  dfree : ∀ k, k < R.dn → w.frozen? ⟨R.db, k, none⟩ = false
  words : WordsAt w R.ca R.ws
  inputs : WordsAt w R.ia R.ins
  bw : ∀ o, isNum o → 0 ≤ s.c o
  bu : ∀ o, isNum o → kindAt o = .u32 → s.c o ≤ 4294967295
  bd : ∀ k, k < R.dn → 0 ≤ s.data k ∧ s.data k ≤ 255
  bb : base ≤ w.heap.size
  ilt : 0 < R.ins.length → ∀ a, R.ia = some a → a.block < w.heap.size
def RFoot (R : RLay) (gb : Nat) (lv : Value) (k : Nat) : Prop := k = R.rb ∨ k = R.db ∨ k = gb ∨ lv.ownBlock = some k
structure RWf (base : Nat) (R : RLay) (gb : Nat) (lv : Value) : Prop where
  db : R.db ≠ R.rb
  gg : gb ≠ R.rb ∧ gb ≠ R.db
  lb : ∀ g, lv.ownBlock = some g → g ≠ R.rb ∧ g ≠ R.db ∧ g ≠ gb
  ca : ∀ a, R.ca = some a → ¬ RFoot R gb lv a.block
  ia : 0 < R.ins.length → ∀ a, R.ia = some a → ¬ RFoot R gb lv a.block
  dn : 4 ≤ R.dn ∧ R.dn ≤ 65536 ∧ R.dn % 4 = 0
  wn : 1 ≤ R.ws.length ∧ R.ws.length ≤ 32768
  inn : R.ins.length ≤ 100000
  wb : ∀ k, k < R.ws.length → 0 ≤ R.ws.getD k 0 ∧ R.ws.getD k 0 ≤ 4294967295
  insb : ∀ k, k < R.ins.length → 0 ≤ R.ins.getD k 0 ∧ R.ins.getD k 0 ≤ 4294967295
def ROkay (base : Nat) (R : RLay) (gb : Nat) (lv : Value) (w w' : World) (s : MSt) : Prop :=
  ∃ gb' lv', RAt base w' R gb' lv' s ∧ RWf base R gb' lv' ∧ Fr (RFoot R gb lv) w w' ∧ (∀ g, (g = gb' ∨ lv'.ownBlock = some g) → (g = gb ∨ lv.ownBlock = some g) ∨ w.heap.size ≤ g)
theorem WordsAt.kept {F : Nat → Prop} {w w' : World} {a : Option Addr} {l : List Int} (h : WordsAt w a l) (hf : Fr F w w') (hn : 0 < l.length → ∀ x, a = some x → ¬ F x.block) : WordsAt w' a l := by
  intro k hk
  have hn := hn (by omega)
  obtain ⟨b, o, e, hc⟩ := h k hk
  exact ⟨b, o, e, hf.cell hc (hn ⟨b, o, none⟩ e)⟩
theorem RAt.any {base : Nat} {w : World} {R : RLay} {gb : Nat} {lv : Value} {s : MSt} (h : RAt base w R gb lv s) {o : Nat} (ho : o < 11) : ∃ v, w.cell? ⟨R.rb, o, none⟩ = some v := by
  by_cases h1 : isR o
  · exact ⟨_, h.num o h1⟩
  · have : o = 0 ∨ o = 1 ∨ o = 2 ∨ o = 3 ∨ o = 7 := by unfold isR at h1; omega
    rcases this with rfl | rfl | rfl | rfl | rfl
    · exact ⟨_, h.code⟩
    · exact ⟨_, h.dat⟩
    · exact ⟨_, h.inp⟩
    · exact ⟨_, h.regs⟩
    · exact ⟨_, h.logv⟩
theorem RAt.kept {base : Nat} {w w' : World} {R : RLay} {gb : Nat} {lv : Value} {s : MSt} {F : Nat → Prop} (h : RAt base w R gb lv s) (hf : Fr F w w') (nf : ∀ k, RFoot R gb lv k → ¬ F k) (nc : ∀ x, R.ca = some x → ¬ F x.block) (ni : 0 < R.ins.length → ∀ x, R.ia = some x → ¬ F x.block) :
    RAt base w' R gb lv s where
  num o ho := hf.cell (h.num o ho) (nf _ (.inl rfl))
  code := hf.cell h.code (nf _ (.inl rfl))
  dat := hf.cell h.dat (nf _ (.inl rfl))
  inp := hf.cell h.inp (nf _ (.inl rfl))
  regs := hf.cell h.regs (nf _ (.inl rfl))
  logv := hf.cell h.logv (nf _ (.inl rfl))
  own := hf.owns h.own (fun k e => nf k (.inr (.inr (.inr e))))
  free o ho := by
    obtain ⟨v, hv⟩ := h.any ho
    exact (hf.frozen hv (nf _ (.inl rfl))).trans (h.free o ho)
  reg r hr := hf.cell (h.reg r hr) (nf _ (.inr (.inr (.inl rfl))))
  gfree r hr := (hf.frozen (h.reg r hr) (nf _ (.inr (.inr (.inl rfl))))).trans (h.gfree r hr)
  byte k hk := hf.cell (h.byte k hk) (nf _ (.inr (.inl rfl)))
  dfree k hk := (hf.frozen (h.byte k hk) (nf _ (.inr (.inl rfl)))).trans (h.dfree k hk)
  words := h.words.kept hf (fun _ => nc)
  inputs := h.inputs.kept hf ni
  bw := h.bw
  bu := h.bu
  bd := h.bd
  bb := Nat.le_trans h.bb hf.size
  ilt p a e := Nat.lt_of_lt_of_le (h.ilt p a e) hf.size
theorem RAt.grown0 {base : Nat} {w w' : World} {R : RLay} {gb : Nat} {lv : Value} {s : MSt} (h : RAt base w R gb lv s) (hf : Fr (fun _ => False) w w') : RAt base w' R gb lv s :=
  h.kept hf (fun _ _ => id) (fun _ _ => id) (fun _ _ _ => id)
theorem ROkay.quiet {base : Nat} {R : RLay} {gb : Nat} {lv : Value} {w w' : World} {s : MSt} (h : RAt base w R gb lv s) (hw : RWf base R gb lv) (hf : Fr (fun _ => False) w w') : ROkay base R gb lv w w' s :=
  ⟨gb, lv, h.grown0 hf, hw, hf.mono (fun _ _ f => f.elim), fun g hg => .inl hg⟩
theorem ROkay.step {base : Nat} {R : RLay} {gb g1 : Nat} {lv l1 : Value} {w w1 w2 : World} {t : MSt} (r1 : Fr (RFoot R gb lv) w w1) (n1 : ∀ g, (g = g1 ∨ l1.ownBlock = some g) → (g = gb ∨ lv.ownBlock = some g) ∨ w.heap.size ≤ g) (k : ROkay base R g1 l1 w1 w2 t) : ROkay base R gb lv w w2 t := by
  obtain ⟨g2, l2, a2, f2, r2, n2⟩ := k
  refine ⟨g2, l2, a2, f2, r1.trans' r2 ?_, fun g hg => ?_⟩
  · rintro j hj (e | e | e | e)
    · exact .inl e
    · exact .inr (.inl e)
    · rcases n1 j (.inl e) with (h | h) | h
      · exact .inr (.inr (.inl h))
      · exact .inr (.inr (.inr h))
      · omega
    · rcases n1 j (.inr e) with (h | h) | h
      · exact .inr (.inr (.inl h))
      · exact .inr (.inr (.inr h))
      · omega
  · rcases n2 g hg with h | h
    · exact n1 g h
    · have := r1.size
      exact .inr (by omega)
theorem ROkay.trans {base : Nat} {R : RLay} {gb : Nat} {lv : Value} {w w1 w2 : World} {s t : MSt} (h : ROkay base R gb lv w w1 s) (k : ∀ g1 l1, RAt base w1 R g1 l1 s → RWf base R g1 l1 → ROkay base R g1 l1 w1 w2 t) : ROkay base R gb lv w w2 t := by
  obtain ⟨g1, l1, a1, f1, r1, n1⟩ := h
  exact ROkay.step r1 n1 (k g1 l1 a1 f1)
theorem ROkay.before {base : Nat} {R : RLay} {gb : Nat} {lv : Value} {w w1 w2 : World} {s : MSt} (hf : Fr (fun _ => False) w w1) (k : ROkay base R gb lv w1 w2 s) : ROkay base R gb lv w w2 s :=
  ROkay.step (hf.mono (fun _ _ f => f.elim)) (fun g hg => .inl hg) k
theorem ROkay.drewN {base : Nat} {R : RLay} {gb : Nat} {lv : Value} {w w' : World} {s : MSt} (h : ROkay base R gb lv w w' s) (n : Nat) : ROkay base R gb lv w (w'.drewN n) s :=
  h.trans fun g1 l1 a f => ROkay.quiet a f ((Fr.refl _ _).drewN n)
theorem ridx_ge (o : Nat) : 32 ≤ ridx o := by unfold ridx; (repeat' split) <;> omega
theorem ridx_inj {o o' : Nat} (h : isR o) (h' : isR o') (e : ridx o' = ridx o) : o' = o := by
  unfold isR at h h'
  rcases h with rfl | rfl | rfl | rfl | rfl | rfl <;> rcases h' with rfl | rfl | rfl | rfl | rfl | rfl <;> revert e <;> decide
theorem ridx_num {o : Nat} (h : isR o) : isNum (ridx o) := by
  unfold isR at h
  rcases h with rfl | rfl | rfl | rfl | rfl | rfl <;> (unfold isNum; decide)
theorem RAt.setNum {base : Nat} {w : World} {R : RLay} {gb : Nat} {lv : Value} {s : MSt} (h : RAt base w R gb lv s) (hw : RWf base R gb lv) (o : Nat) (ho : isR o) (v : Int) (v0 : 0 ≤ v) (v1 : kindAt (ridx o) = .u32 → v ≤ 4294967295) :
    RAt base (w.setCell ⟨R.rb, o, none⟩ (.int (rkind o) v)) R gb lv { s with c := updN s.c (ridx o) v } := by
  have hx : ∀ o', o' ≠ o → (w.setCell ⟨R.rb, o, none⟩ (.int (rkind o) v)).cell? ⟨R.rb, o', none⟩ = w.cell? ⟨R.rb, o', none⟩ := fun o' hne =>
    World.cell?_setCell_other _ _ _ _ (fun e => hne (by injection e with e1 e2; exact e2.symm))
  have hy : ∀ (b o' : Nat), b ≠ R.rb → (w.setCell ⟨R.rb, o, none⟩ (.int (rkind o) v)).cell? ⟨b, o', none⟩ = w.cell? ⟨b, o', none⟩ := fun b o' hne =>
    World.cell?_setCell_other _ _ _ _ (fun e => hne (by injection e with e1 e2; exact e1.symm))
  have hF := Fr.setCell (F := fun k => k = R.rb) w ⟨R.rb, o, none⟩ (.int (rkind o) v) rfl
  have hn : o ≠ 0 ∧ o ≠ 1 ∧ o ≠ 2 ∧ o ≠ 3 ∧ o ≠ 7 := by unfold isR at ho; omega
  have hge := ridx_ge o
  refine ⟨fun o' ho' => ?_, ?_, ?_, ?_, ?_, ?_, hF.owns h.own (fun k hk e => (hw.lb k hk).1 e), fun o' ho' => (World.frozen?_setCell _ _ _ _).trans (h.free o' ho'), fun r hr => ?_, fun r hr => (World.frozen?_setCell _ _ _ _).trans (h.gfree r hr), fun k hk => ?_, fun k hk => (World.frozen?_setCell _ _ _ _).trans (h.dfree k hk),
    h.words.kept hF (fun _ x e q => hw.ca x e (.inl q)), h.inputs.kept hF (fun p x e q => hw.ia p x e (.inl q)), fun o' ho' => ?_, fun o' ho' hk => ?_, h.bd, by simpa [World.setCell] using h.bb, fun p a e => by simpa [World.setCell] using h.ilt p a e⟩
  · by_cases e : o' = o
    · subst e
      rw [World.cell?_setCell_same _ _ _ (h.num o' ho)]
      simp [updN]
    · rw [hx o' e, h.num o' ho']
      show _ = some (Value.int (rkind o') (updN s.c (ridx o) v (ridx o')))
      rw [updN_other (fun q => e (ridx_inj ho ho' q))]
  · rw [hx 0 (by omega)]; exact h.code
  · rw [hx 1 (by omega)]; exact h.dat
  · rw [hx 2 (by omega)]; exact h.inp
  · rw [hx 3 (by omega)]; exact h.regs
  · rw [hx 7 (by omega)]; exact h.logv
  · rw [hy _ _ hw.gg.1, h.reg r hr]
    show _ = some (Value.int .u32 (updN s.c (ridx o) v r))
    rw [updN_other (by omega)]
  · rw [hy _ _ hw.db]; exact h.byte k hk
  · show 0 ≤ updN s.c (ridx o) v o'
    unfold updN; split
    · exact v0
    · exact h.bw o' ho'
  · show updN s.c (ridx o) v o' ≤ 4294967295
    unfold updN; split
    · rename_i e; subst e; exact v1 hk
    · exact h.bu o' ho' hk
theorem ROkay.setNum {base : Nat} {R : RLay} {gb : Nat} {lv : Value} {w : World} {s : MSt} (h : RAt base w R gb lv s) (hw : RWf base R gb lv) (o : Nat) (ho : isR o) (v : Int) (v0 : 0 ≤ v) (v1 : kindAt (ridx o) = .u32 → v ≤ 4294967295) :
    ROkay base R gb lv w (w.setCell ⟨R.rb, o, none⟩ (.int (rkind o) v)) { s with c := updN s.c (ridx o) v } :=
  ⟨gb, lv, h.setNum hw o ho v v0 v1, hw, Fr.setCell _ _ _ (.inl rfl), fun g hg => .inl hg⟩
theorem ROkay.setReg {base : Nat} {R : RLay} {gb : Nat} {lv : Value} {w : World} {s : MSt} (h : RAt base w R gb lv s) (hw : RWf base R gb lv) (r : Nat) (hr : r < 32) (v : Int) (v0 : 0 ≤ v) (v1 : v ≤ 4294967295) :
    ROkay base R gb lv w (setW w gb r v) { s with c := setR s.c r v } := by
  unfold setW setR
  by_cases h0 : r = 0
  · rw [if_pos h0, if_pos h0]; exact ROkay.quiet h hw (Fr.refl _ _)
  rw [if_neg h0, if_neg h0]
  have hy : ∀ (b o' : Nat), (b ≠ gb ∨ o' ≠ r) → (w.setCell ⟨gb, r, none⟩ (.int .u32 v)).cell? ⟨b, o', none⟩ = w.cell? ⟨b, o', none⟩ := fun b o' hne =>
    World.cell?_setCell_other _ _ _ _ (fun e => by injection e with e1 e2; omega)
  have hF := Fr.setCell (F := fun k => k = gb) w ⟨gb, r, none⟩ (.int .u32 v) rfl
  refine ⟨gb, lv, ⟨fun o' ho' => ?_, ?_, ?_, ?_, ?_, ?_, hF.owns h.own (fun k hk e => (hw.lb k hk).2.2 e), fun o' ho' => (World.frozen?_setCell _ _ _ _).trans (h.free o' ho'), fun r' hr' => ?_, fun r hr => (World.frozen?_setCell _ _ _ _).trans (h.gfree r hr), fun k hk => ?_, fun k hk => (World.frozen?_setCell _ _ _ _).trans (h.dfree k hk),
    h.words.kept hF (fun _ x e q => hw.ca x e (.inr (.inr (.inl q)))), h.inputs.kept hF (fun p x e q => hw.ia p x e (.inr (.inr (.inl q)))), fun o' ho' => ?_, fun o' ho' hk => ?_, h.bd, by simpa [World.setCell] using h.bb, fun p a e => by simpa [World.setCell] using h.ilt p a e⟩, hw, Fr.setCell _ _ _ (.inr (.inr (.inl rfl))), fun g hg => .inl hg⟩
  · have := ridx_ge o'
    rw [hy _ _ (.inl (Ne.symm hw.gg.1)), h.num o' ho']
    show _ = some (Value.int (rkind o') (updN s.c r v (ridx o')))
    rw [updN_other (by omega)]
  · rw [hy _ _ (.inl (Ne.symm hw.gg.1))]; exact h.code
  · rw [hy _ _ (.inl (Ne.symm hw.gg.1))]; exact h.dat
  · rw [hy _ _ (.inl (Ne.symm hw.gg.1))]; exact h.inp
  · rw [hy _ _ (.inl (Ne.symm hw.gg.1))]; exact h.regs
  · rw [hy _ _ (.inl (Ne.symm hw.gg.1))]; exact h.logv
  · show _ = some (Value.int .u32 (updN s.c r v r'))
    by_cases e : r' = r
    · subst e
      rw [World.cell?_setCell_same _ _ _ (h.reg r' hr), updN_same]
    · rw [hy _ _ (.inr e), h.reg r' hr', updN_other e]
  · rw [hy _ _ (.inl (Ne.symm hw.gg.2))]; exact h.byte k hk
  · show 0 ≤ updN s.c r v o'
    unfold updN; split
    · exact v0
    · exact h.bw o' ho'
  · show updN s.c r v o' ≤ 4294967295
    unfold updN; split
    · exact v1
    · exact h.bu o' ho' hk
theorem ROkay.setByte {base : Nat} {R : RLay} {gb : Nat} {lv : Value} {w : World} {s : MSt} (h : RAt base w R gb lv s) (hw : RWf base R gb lv) (k : Nat) (hk : k < R.dn) (v : Int) (v0 : 0 ≤ v ∧ v ≤ 255) :
    ROkay base R gb lv w (w.setCell ⟨R.db, k, none⟩ (.int .u8 v)) { s with data := updN s.data k v } := by
  have hy : ∀ (b o' : Nat), (b ≠ R.db ∨ o' ≠ k) → (w.setCell ⟨R.db, k, none⟩ (.int .u8 v)).cell? ⟨b, o', none⟩ = w.cell? ⟨b, o', none⟩ := fun b o' hne =>
    World.cell?_setCell_other _ _ _ _ (fun e => by injection e with e1 e2; omega)
  have hF := Fr.setCell (F := fun j => j = R.db) w ⟨R.db, k, none⟩ (.int .u8 v) rfl
  refine ⟨gb, lv, ⟨fun o' ho' => ?_, ?_, ?_, ?_, ?_, ?_, hF.owns h.own (fun k hk e => (hw.lb k hk).2.1 e), fun o' ho' => (World.frozen?_setCell _ _ _ _).trans (h.free o' ho'), fun r' hr' => ?_, fun r hr => (World.frozen?_setCell _ _ _ _).trans (h.gfree r hr), fun j hj => ?_, fun j hj => (World.frozen?_setCell _ _ _ _).trans (h.dfree j hj),
    h.words.kept hF (fun _ x e q => hw.ca x e (.inr (.inl q))), h.inputs.kept hF (fun p x e q => hw.ia p x e (.inr (.inl q))), h.bw, h.bu, fun j hj => ?_, by simpa [World.setCell] using h.bb, fun p a e => by simpa [World.setCell] using h.ilt p a e⟩, hw, Fr.setCell _ _ _ (.inr (.inl rfl)), fun g hg => .inl hg⟩
  · rw [hy _ _ (.inl (Ne.symm hw.db)), h.num o' ho']
  · rw [hy _ _ (.inl (Ne.symm hw.db))]; exact h.code
  · rw [hy _ _ (.inl (Ne.symm hw.db))]; exact h.dat
  · rw [hy _ _ (.inl (Ne.symm hw.db))]; exact h.inp
  · rw [hy _ _ (.inl (Ne.symm hw.db))]; exact h.regs
  · rw [hy _ _ (.inl (Ne.symm hw.db))]; exact h.logv
  · rw [hy _ _ (.inl hw.gg.2)]; exact h.reg r' hr'
  · show _ = some (Value.int .u8 (updN s.data k v j))
    by_cases e : j = k
    · subst e
      rw [World.cell?_setCell_same _ _ _ (h.byte j hj), updN_same]
    · rw [hy _ _ (.inr e), h.byte j hj, updN_other e]
  · show 0 ≤ updN s.data k v j ∧ updN s.data k v j ≤ 255
    unfold updN; split
    · exact v0
    · exact h.bd j hj
theorem RAt.blocks {base : Nat} {w : World} {R : RLay} {gb : Nat} {lv : Value} {s : MSt} (h : RAt base w R gb lv s) (hw : RWf base R gb lv) :
    R.rb < w.heap.size ∧ R.db < w.heap.size ∧ gb < w.heap.size ∧ (∀ a, R.ca = some a → a.block < w.heap.size) := by
  refine ⟨World.block_lt_of_cell? w _ h.logv, World.block_lt_of_cell? w _ (h.byte 0 (by have := hw.dn; omega)), World.block_lt_of_cell? w _ (h.reg 0 (by omega)), fun a ha => ?_⟩
  obtain ⟨b, o, e, hc⟩ := h.words 0 (by have := hw.wn; omega)
  have := World.block_lt_of_cell? w _ hc
  rw [ha] at e
  obtain rfl := Option.some.inj e
  exact this
theorem RAt.setLog {base : Nat} {w : World} {R : RLay} {gb : Nat} {lv lv' : Value} {s : MSt} {q v : Int} (h : RAt base w R gb lv s) (hw : RWf base R gb lv) {w1 : World} (hf : Fr (fun k => lv.ownBlock = some k) w w1)
    (ho : w1.ownsRow base 64 2 lv' (s.log.length + 1) (recCells s.log ++ [.int .u32 q, .int .u32 v])) (hn : ∀ g, lv'.ownBlock = some g → lv.ownBlock = some g ∨ w.heap.size ≤ g) :
    ROkay base R gb lv w (w1.setCell ⟨R.rb, 7, none⟩ lv') { s with log := s.log ++ [(q, v)] } := by
  have nb : ¬ lv.ownBlock = some R.rb := fun e => (hw.lb _ e).1 rfl
  have nd : ¬ lv.ownBlock = some R.db := fun e => (hw.lb _ e).2.1 rfl
  have ng : ¬ lv.ownBlock = some gb := fun e => (hw.lb _ e).2.2 rfl
  have nc : ∀ a, R.ca = some a → ¬ lv.ownBlock = some a.block := fun a ha e => hw.ca a ha (.inr (.inr (.inr e)))
  have ni : 0 < R.ins.length → ∀ a, R.ia = some a → ¬ lv.ownBlock = some a.block := fun p a ha e => hw.ia p a ha (.inr (.inr (.inr e)))
  have hx : ∀ o', o' ≠ 7 → (w1.setCell ⟨R.rb, 7, none⟩ lv').cell? ⟨R.rb, o', none⟩ = w1.cell? ⟨R.rb, o', none⟩ := fun o' hne =>
    World.cell?_setCell_other _ _ _ _ (fun e => hne (by injection e with e1 e2; exact e2.symm))
  have hy : ∀ (b o' : Nat), b ≠ R.rb → (w1.setCell ⟨R.rb, 7, none⟩ lv').cell? ⟨b, o', none⟩ = w1.cell? ⟨b, o', none⟩ := fun b o' hne =>
    World.cell?_setCell_other _ _ _ _ (fun e => hne (by injection e with e1 e2; exact e1.symm))
  obtain ⟨lb, ld, lg, lc⟩ := h.blocks hw
  have hS := Fr.setCell (F := fun k => k = R.rb) w1 ⟨R.rb, 7, none⟩ lv' rfl
  refine ⟨gb, lv', ⟨fun o ho' => ?_, ?_, ?_, ?_, ?_, ?_, ?_, fun o ho' => ?_, fun r hr => ?_, fun r hr => ?_, fun k hk => ?_, fun k hk => ?_, (h.words.kept hf (fun _ => nc)).kept hS (fun _ x e q => hw.ca x e (.inl q)), (h.inputs.kept hf ni).kept hS (fun p x e q => hw.ia p x e (.inl q)), h.bw, h.bu, h.bd, ?_, fun p a ha => ?_⟩, ?_, ?_, ?_⟩
  · rw [hx o (by unfold isR at ho'; omega)]; exact hf.cell (h.num o ho') nb
  · rw [hx 0 (by omega)]; exact hf.cell h.code nb
  · rw [hx 1 (by omega)]; exact hf.cell h.dat nb
  · rw [hx 2 (by omega)]; exact hf.cell h.inp nb
  · rw [hx 3 (by omega)]; exact hf.cell h.regs nb
  · exact World.cell?_setCell_same _ _ _ (hf.cell h.logv nb)
  · show World.ownsRow _ _ _ _ _ (s.log ++ [(q, v)]).length (recCells (s.log ++ [(q, v)]))
    rw [recCells_snoc, List.length_append]
    refine hS.owns ho (fun k hk e => ?_)
    subst e
    rcases hn _ hk with h1 | h1
    · exact nb h1
    · omega
  · obtain ⟨v', hv⟩ := h.any ho'
    exact (World.frozen?_setCell _ _ _ _).trans ((hf.frozen hv nb).trans (h.free o ho'))
  · rw [hy _ _ hw.gg.1]; exact hf.cell (h.reg r hr) ng
  · exact (World.frozen?_setCell _ _ _ _).trans ((hf.frozen (h.reg r hr) ng).trans (h.gfree r hr))
  · rw [hy _ _ hw.db]; exact hf.cell (h.byte k hk) nd
  · exact (World.frozen?_setCell _ _ _ _).trans ((hf.frozen (h.byte k hk) nd).trans (h.dfree k hk))
  · simpa [World.setCell] using Nat.le_trans h.bb hf.size
  · simpa [World.setCell] using Nat.lt_of_lt_of_le (h.ilt p a ha) hf.size
  · have hl : ∀ a : Addr, a.block < w.heap.size → ¬ RFoot R gb lv a.block → ¬ RFoot R gb lv' a.block := by
      intro a ha hn' hh
      rcases hh with e | e | e | e
      · exact hn' (.inl e)
      · exact hn' (.inr (.inl e))
      · exact hn' (.inr (.inr (.inl e)))
      · rcases hn _ e with h1 | h1
        · exact hn' (.inr (.inr (.inr h1)))
        · omega
    refine ⟨hw.db, hw.gg, fun g hg => ?_, fun a ha => hl a (lc a ha) (hw.ca a ha), fun p a ha => hl a (h.ilt p a ha) (hw.ia p a ha), hw.dn, hw.wn, hw.inn, hw.wb, hw.insb⟩
    rcases hn g hg with h1 | h1
    · exact hw.lb g h1
    · exact ⟨by omega, by omega, by omega⟩
  · exact (hf.mono (G := RFoot R gb lv) (fun k _ e => .inr (.inr (.inr e)))).trans (Fr.setCell _ _ _ (.inl rfl))
  · rintro g (rfl | hg)
    · exact .inl (.inl rfl)
    · rcases hn g hg with h1 | h1
      · exact .inl (.inr h1)
      · exact .inr h1
theorem le1_val {x : Int} (x0 : 0 ≤ x) (x1 : x ≤ 255) : le1 x = x := by
  unfold le1
  have := or_field (x := 0) (f := x) 0 8 (by omega) (by omega) x0 (by simp) (by simp; omega) (by decide)
  simpa using this
theorem le2_val {x y : Int} (x0 : 0 ≤ x) (x1 : x ≤ 255) (y0 : 0 ≤ y) (y1 : y ≤ 255) : le2 x y = x + y * 256 := by
  unfold le2
  rw [le1_val x0 x1]
  have := or_field (x := x) (f := y) 8 8 (by omega) (by omega) y0 (by simp; omega) (by simp; omega) (by decide)
  simpa using this
theorem le4_val {x y z u : Int} (x0 : 0 ≤ x) (x1 : x ≤ 255) (y0 : 0 ≤ y) (y1 : y ≤ 255) (z0 : 0 ≤ z) (z1 : z ≤ 255) (u0 : 0 ≤ u) (u1 : u ≤ 255) : le4 x y z u = x + y * 256 + z * 65536 + u * 16777216 := by
  unfold le4
  rw [le2_val x0 x1 y0 y1]
  have h1 := or_field (x := x + y * 256) (f := z) 16 8 (by omega) (by omega) z0 (by simp; omega) (by simp; omega) (by decide)
  have e1 : bits .or .u32 (x + y * 256) (z * 65536) = x + y * 256 + z * 65536 := by simpa using h1
  rw [e1]
  have h2 := or_field (x := x + y * 256 + z * 65536) (f := u) 24 8 (by omega) (by omega) u0 (by simp; omega) (by simp; omega) (by decide)
  simpa using h2
theorem sign8 {x : Int} (x0 : 0 ≤ x) (x1 : x ≤ 255) : signF x 8 = if 128 ≤ x then (x - 256) % 4294967296 else x % 4294967296 := by
  have e : (8 : Int).toNat = 8 := rfl
  unfold signF
  rw [if_neg (by omega), e]
  unfold signN
  simp only [Int.reducePow]
  split <;> split <;> omega
theorem sign16 {x : Int} (x0 : 0 ≤ x) (x1 : x ≤ 65535) : signF x 16 = if 32768 ≤ x then (x - 65536) % 4294967296 else x % 4294967296 := by
  have e : (16 : Int).toNat = 16 := rfl
  unfold signF
  rw [if_neg (by omega), e]
  unfold signN
  simp only [Int.reducePow]
  split <;> split <;> omega
section
variable (rb : Nat) (w : World)
theorem rm_load_out (n c : Nat) (da : Option Addr) (a : Int) (op : Int) (ho : 11 ≤ op ∧ op ≤ 15) (hq : ¬ (op = 13 ∧ a = 536870924)) (a0 : 0 ≤ a) (a1 : a ≤ 4294967295) (hn : n ≤ 65536)
    (hd : w.cell? ⟨rb, 1, none⟩ = some (.slice da n c)) (hp : placeF n a (sizeF op) = false) :
    Calls Tryz.prog 46 #[.pointer (some ⟨rb, 0, none⟩), .int .i64 op, .int .i64 a] w fun e w' => e = .returned (.tuple #[.int .u32 0, .bool false]) ∧ w = w' := by
  have hz : sizeF op = 1 ∨ sizeF op = 2 ∨ sizeF op = 4 := by
    have : op = 11 ∨ op = 12 ∨ op = 13 ∨ op = 14 ∨ op = 15 := by omega
    rcases this with rfl | rfl | rfl | rfl | rfl <;> decide
  have HI := Lib.hid (fun w h => (rm_in rb n da c a (sizeF op) hz hn a0 a1 w h))
  rw [hp] at HI
  clear hp hz
  by_cases h13 : op = 13
  · subst h13
    have ha : (a == 536870924) = false := by rw [beq_eq_false_iff_ne]; intro e; exact hq ⟨rfl, e⟩
    clear hq
    go_enter Tryz.func46, Tryz.ntmps46
    go_wp2_with (first
      | (go_at_call 69; (with_reducible refine (rm_size _ (by decide) _).mono ?_); rintro e w' ⟨rfl, rfl⟩)
      | (go_at_call 70; (with_reducible refine (HI.out _ (by assumption)).mono ?_); rintro e w' ⟨rfl, rfl⟩))
    go_ret2
    exact ⟨rfl, rfl⟩
  · have h13' : (op == 13) = false := by rw [beq_eq_false_iff_ne]; exact h13
    clear hq h13
    have HSz := Lib.hid (fun w => rm_size op (by omega) w)
    clear ho
    go_enter Tryz.func46, Tryz.ntmps46
    go_wp2_with (first
      | (go_at_call 69; (with_reducible refine (HSz.out _).mono ?_); rintro e w' ⟨rfl, rfl⟩)
      | (go_at_call 70; (with_reducible refine (HI.out _ (by assumption)).mono ?_); rintro e w' ⟨rfl, rfl⟩))
    go_ret2
    exact ⟨rfl, rfl⟩
theorem rm_load_inp_no (ia : Option Addr) (n c : Nat) (i : Int) (i0 : 0 ≤ i) (i1 : i ≤ 4294967295) (hn : n ≤ 4611686018427387904) (hi : (n : Int) ≤ i)
    (hd : w.cell? ⟨rb, 2, none⟩ = some (.slice ia n c)) (hx : w.cell? ⟨rb, 6, none⟩ = some (.int .u32 i)) :
    Calls Tryz.prog 46 #[.pointer (some ⟨rb, 0, none⟩), .int .i64 13, .int .i64 536870924] w fun e w' => e = .returned (.tuple #[.int .u32 0, .bool true]) ∧ ∃ k, w' = w.drewN k := by
  have hB : decide (i < (n : Int)) = false := decide_eq_false (by omega)
  go_enter Tryz.func46, Tryz.ntmps46
  go_wp2_with (go_at_call 69; (with_reducible refine (rm_size _ (by decide) _).mono ?_); rintro e w' ⟨rfl, rfl⟩)
  go_quiet (fail)
  go_wp2
  go_ret2
  exact ⟨rfl, _, rfl⟩
theorem rm_load_inp (ib io : Nat) (n c : Nat) (i : Nat) (x : Int) (i1 : i ≤ 4294967295) (hn : n ≤ 4611686018427387904) (hi : i < n)
    (hd : w.cell? ⟨rb, 2, none⟩ = some (.slice (some ⟨ib, io, none⟩) n c)) (hx : w.cell? ⟨rb, 6, none⟩ = some (.int .u32 i)) (hv : w.cell? ⟨ib, io + i, none⟩ = some (.int .u32 x)) :
    Calls Tryz.prog 46 #[.pointer (some ⟨rb, 0, none⟩), .int .i64 13, .int .i64 536870924] w fun e w' => e = .returned (.tuple #[.int .u32 x, .bool true]) ∧ ∃ k, w' = w.drewN k := by
  have t1 : (i : Int) < n := by omega
  have t0 : (0 : Int) ≤ i := by omega
  go_enter Tryz.func46, Tryz.ntmps46
  go_wp2_with (go_at_call 69; (with_reducible refine (rm_size _ (by decide) _).mono ?_); rintro e w' ⟨rfl, rfl⟩)
  go_quiet (fail)
  go_wp2
  go_quiet (fail)
  go_wp2
  go_ret2
  exact ⟨rfl, _, drew2 _ _ _⟩
set_option maxHeartbeats 1000000 in
theorem rm_l11a (db n c k : Nat) (x : Int) (x0 : 0 ≤ x) (x1 : x ≤ 255) (hn : n ≤ 65536) (hk : k + 1 ≤ n)
    (hd : w.cell? ⟨rb, 1, none⟩ = some (.slice (some ⟨db, 0, none⟩) n c)) (hx : w.cell? ⟨db, k, none⟩ = some (.int .u8 x)) (hp : placeF n (268435456 + k) 1 = true) (hs : 128 ≤ x) :
    Calls Tryz.prog 46 #[.pointer (some ⟨rb, 0, none⟩), .int .i64 11, .int .i64 (268435456 + k)] w fun e w' => e = .returned (.tuple #[.int .u32 ((x - 256) % 4294967296), .bool true]) ∧ w = w' := by
  have HI := Lib.hid (fun w h => (rm_in rb n (some ⟨db, 0, none⟩) c (268435456 + k) 1 (.inl rfl) hn (by omega) (by omega) w h))
  rw [hp] at HI
  have HSz : Hid (∀ w, Calls Tryz.prog 69 #[.int .i64 11] w fun e w' => e = .returned (.int .i64 1) ∧ w = w') := Lib.hid (fun w => rm_size 11 (by decide) w)
  have HC := Lib.hid (fun n h0 h1 w => c44 n h0 h1 w)
  have t0 : (0 : Int) ≤ k := by omega
  have t1 : (k : Int) + 1 ≤ n := by omega
  clear hp
  go_enter Tryz.func46, Tryz.ntmps46
  go_wp2_with (first
    | (go_at_call 69; (with_reducible refine (HSz.out _).mono ?_); rintro e w' ⟨rfl, rfl⟩)
    | (go_at_call 70; (with_reducible refine (HI.out _ (by assumption)).mono ?_); rintro e w' ⟨rfl, rfl⟩))
  refine wp_loop_rounds 2 ?_
  rw [rounds_succ]; go_wp2
  rw [rounds_succ]; go_wp2_with (go_at_call 44; (with_reducible refine (HC.out _ (by omega) (by omega) _).mono ?_); rintro e w' ⟨rfl, rfl⟩)
  go_ret2
  exact ⟨rfl, rfl⟩
set_option maxHeartbeats 1000000 in
theorem rm_l11b (db n c k : Nat) (x : Int) (x0 : 0 ≤ x) (x1 : x ≤ 255) (hn : n ≤ 65536) (hk : k + 1 ≤ n)
    (hd : w.cell? ⟨rb, 1, none⟩ = some (.slice (some ⟨db, 0, none⟩) n c)) (hx : w.cell? ⟨db, k, none⟩ = some (.int .u8 x)) (hp : placeF n (268435456 + k) 1 = true) (hs : ¬ 128 ≤ x) :
    Calls Tryz.prog 46 #[.pointer (some ⟨rb, 0, none⟩), .int .i64 11, .int .i64 (268435456 + k)] w fun e w' => e = .returned (.tuple #[.int .u32 (x % 4294967296), .bool true]) ∧ w = w' := by
  have HI := Lib.hid (fun w h => (rm_in rb n (some ⟨db, 0, none⟩) c (268435456 + k) 1 (.inl rfl) hn (by omega) (by omega) w h))
  rw [hp] at HI
  have HSz : Hid (∀ w, Calls Tryz.prog 69 #[.int .i64 11] w fun e w' => e = .returned (.int .i64 1) ∧ w = w') := Lib.hid (fun w => rm_size 11 (by decide) w)
  have HC := Lib.hid (fun n h0 h1 w => c44 n h0 h1 w)
  have t0 : (0 : Int) ≤ k := by omega
  have t1 : (k : Int) + 1 ≤ n := by omega
  have hs' : decide (128 ≤ x) = false := decide_eq_false hs
  clear hp
  go_enter Tryz.func46, Tryz.ntmps46
  go_wp2_with (first
    | (go_at_call 69; (with_reducible refine (HSz.out _).mono ?_); rintro e w' ⟨rfl, rfl⟩)
    | (go_at_call 70; (with_reducible refine (HI.out _ (by assumption)).mono ?_); rintro e w' ⟨rfl, rfl⟩))
  refine wp_loop_rounds 2 ?_
  rw [rounds_succ]; go_wp2
  rw [rounds_succ]; go_wp2_with (go_at_call 44; (with_reducible refine (HC.out _ (by omega) (by omega) _).mono ?_); rintro e w' ⟨rfl, rfl⟩)
  go_ret2
  exact ⟨rfl, rfl⟩
set_option maxHeartbeats 1000000 in
theorem rm_l14 (db n c k : Nat) (x : Int) (x0 : 0 ≤ x) (x1 : x ≤ 255) (hn : n ≤ 65536) (hk : k + 1 ≤ n)
    (hd : w.cell? ⟨rb, 1, none⟩ = some (.slice (some ⟨db, 0, none⟩) n c)) (hx : w.cell? ⟨db, k, none⟩ = some (.int .u8 x)) (hp : placeF n (268435456 + k) 1 = true) :
    Calls Tryz.prog 46 #[.pointer (some ⟨rb, 0, none⟩), .int .i64 14, .int .i64 (268435456 + k)] w fun e w' => e = .returned (.tuple #[.int .u32 (x % 4294967296), .bool true]) ∧ w = w' := by
  have HI := Lib.hid (fun w h => (rm_in rb n (some ⟨db, 0, none⟩) c (268435456 + k) 1 (.inl rfl) hn (by omega) (by omega) w h))
  rw [hp] at HI
  have HSz : Hid (∀ w, Calls Tryz.prog 69 #[.int .i64 14] w fun e w' => e = .returned (.int .i64 1) ∧ w = w') := Lib.hid (fun w => rm_size 14 (by decide) w)
  have HC := Lib.hid (fun n h0 h1 w => c44 n h0 h1 w)
  have t0 : (0 : Int) ≤ k := by omega
  have t1 : (k : Int) + 1 ≤ n := by omega
  clear hp
  go_enter Tryz.func46, Tryz.ntmps46
  go_wp2_with (first
    | (go_at_call 69; (with_reducible refine (HSz.out _).mono ?_); rintro e w' ⟨rfl, rfl⟩)
    | (go_at_call 70; (with_reducible refine (HI.out _ (by assumption)).mono ?_); rintro e w' ⟨rfl, rfl⟩))
  refine wp_loop_rounds 2 ?_
  rw [rounds_succ]; go_wp2
  rw [rounds_succ]; go_wp2_with (go_at_call 44; (with_reducible refine (HC.out _ (by omega) (by omega) _).mono ?_); rintro e w' ⟨rfl, rfl⟩)
  go_ret2
  exact ⟨rfl, rfl⟩
set_option maxHeartbeats 1000000 in
theorem rm_l12a (db n c k : Nat) (x y : Int) (x0 : 0 ≤ x) (x1 : x ≤ 255) (y0 : 0 ≤ y) (y1 : y ≤ 255) (hn : n ≤ 65536) (hk : k + 2 ≤ n)
    (hd : w.cell? ⟨rb, 1, none⟩ = some (.slice (some ⟨db, 0, none⟩) n c)) (hx : w.cell? ⟨db, k, none⟩ = some (.int .u8 x)) (hy : w.cell? ⟨db, k + 1, none⟩ = some (.int .u8 y)) (hp : placeF n (268435456 + k) 2 = true) (hs : 32768 ≤ (256 * y + x)) :
    Calls Tryz.prog 46 #[.pointer (some ⟨rb, 0, none⟩), .int .i64 12, .int .i64 (268435456 + k)] w fun e w' => e = .returned (.tuple #[.int .u32 (((256 * y + x) - 65536) % 4294967296), .bool true]) ∧ w = w' := by
  have HI := Lib.hid (fun w h => (rm_in rb n (some ⟨db, 0, none⟩) c (268435456 + k) 2 (.inr (.inl rfl)) hn (by omega) (by omega) w h))
  rw [hp] at HI
  have HSz : Hid (∀ w, Calls Tryz.prog 69 #[.int .i64 12] w fun e w' => e = .returned (.int .i64 2) ∧ w = w') := Lib.hid (fun w => rm_size 12 (by decide) w)
  have HC := Lib.hid (fun n h0 h1 w => c44 n h0 h1 w)
  have t0 : (0 : Int) ≤ k := by omega
  have t1 : (k : Int) + 2 ≤ n := by omega
  have e1 : (268435456 + (k : Int) - 268435456 + 1) = ((k + 1 : Nat) : Int) := by omega
  clear hp
  go_enter Tryz.func46, Tryz.ntmps46
  go_wp2_with (first
    | (go_at_call 69; (with_reducible refine (HSz.out _).mono ?_); rintro e w' ⟨rfl, rfl⟩)
    | (go_at_call 70; (with_reducible refine (HI.out _ (by assumption)).mono ?_); rintro e w' ⟨rfl, rfl⟩))
  refine wp_loop_rounds 3 ?_
  rw [rounds_succ]; go_wp2
  rw [rounds_succ]; go_wp2
  rw [rounds_succ]; go_wp2_with (go_at_call 44; (with_reducible refine (HC.out _ (by omega) (by omega) _).mono ?_); rintro e w' ⟨rfl, rfl⟩)
  go_ret2
  exact ⟨rfl, rfl⟩
set_option maxHeartbeats 1000000 in
theorem rm_l12b (db n c k : Nat) (x y : Int) (x0 : 0 ≤ x) (x1 : x ≤ 255) (y0 : 0 ≤ y) (y1 : y ≤ 255) (hn : n ≤ 65536) (hk : k + 2 ≤ n)
    (hd : w.cell? ⟨rb, 1, none⟩ = some (.slice (some ⟨db, 0, none⟩) n c)) (hx : w.cell? ⟨db, k, none⟩ = some (.int .u8 x)) (hy : w.cell? ⟨db, k + 1, none⟩ = some (.int .u8 y)) (hp : placeF n (268435456 + k) 2 = true) (hs : ¬ 32768 ≤ (256 * y + x)) :
    Calls Tryz.prog 46 #[.pointer (some ⟨rb, 0, none⟩), .int .i64 12, .int .i64 (268435456 + k)] w fun e w' => e = .returned (.tuple #[.int .u32 ((256 * y + x) % 4294967296), .bool true]) ∧ w = w' := by
  have HI := Lib.hid (fun w h => (rm_in rb n (some ⟨db, 0, none⟩) c (268435456 + k) 2 (.inr (.inl rfl)) hn (by omega) (by omega) w h))
  rw [hp] at HI
  have HSz : Hid (∀ w, Calls Tryz.prog 69 #[.int .i64 12] w fun e w' => e = .returned (.int .i64 2) ∧ w = w') := Lib.hid (fun w => rm_size 12 (by decide) w)
  have HC := Lib.hid (fun n h0 h1 w => c44 n h0 h1 w)
  have t0 : (0 : Int) ≤ k := by omega
  have t1 : (k : Int) + 2 ≤ n := by omega
  have hs' : decide (32768 ≤ (256 * y + x)) = false := decide_eq_false hs
  have e1 : (268435456 + (k : Int) - 268435456 + 1) = ((k + 1 : Nat) : Int) := by omega
  clear hp
  go_enter Tryz.func46, Tryz.ntmps46
  go_wp2_with (first
    | (go_at_call 69; (with_reducible refine (HSz.out _).mono ?_); rintro e w' ⟨rfl, rfl⟩)
    | (go_at_call 70; (with_reducible refine (HI.out _ (by assumption)).mono ?_); rintro e w' ⟨rfl, rfl⟩))
  refine wp_loop_rounds 3 ?_
  rw [rounds_succ]; go_wp2
  rw [rounds_succ]; go_wp2
  rw [rounds_succ]; go_wp2_with (go_at_call 44; (with_reducible refine (HC.out _ (by omega) (by omega) _).mono ?_); rintro e w' ⟨rfl, rfl⟩)
  go_ret2
  exact ⟨rfl, rfl⟩
set_option maxHeartbeats 1000000 in
theorem rm_l15 (db n c k : Nat) (x y : Int) (x0 : 0 ≤ x) (x1 : x ≤ 255) (y0 : 0 ≤ y) (y1 : y ≤ 255) (hn : n ≤ 65536) (hk : k + 2 ≤ n)
    (hd : w.cell? ⟨rb, 1, none⟩ = some (.slice (some ⟨db, 0, none⟩) n c)) (hx : w.cell? ⟨db, k, none⟩ = some (.int .u8 x)) (hy : w.cell? ⟨db, k + 1, none⟩ = some (.int .u8 y)) (hp : placeF n (268435456 + k) 2 = true) :
    Calls Tryz.prog 46 #[.pointer (some ⟨rb, 0, none⟩), .int .i64 15, .int .i64 (268435456 + k)] w fun e w' => e = .returned (.tuple #[.int .u32 ((256 * y + x) % 4294967296), .bool true]) ∧ w = w' := by
  have HI := Lib.hid (fun w h => (rm_in rb n (some ⟨db, 0, none⟩) c (268435456 + k) 2 (.inr (.inl rfl)) hn (by omega) (by omega) w h))
  rw [hp] at HI
  have HSz : Hid (∀ w, Calls Tryz.prog 69 #[.int .i64 15] w fun e w' => e = .returned (.int .i64 2) ∧ w = w') := Lib.hid (fun w => rm_size 15 (by decide) w)
  have HC := Lib.hid (fun n h0 h1 w => c44 n h0 h1 w)
  have t0 : (0 : Int) ≤ k := by omega
  have t1 : (k : Int) + 2 ≤ n := by omega
  have e1 : (268435456 + (k : Int) - 268435456 + 1) = ((k + 1 : Nat) : Int) := by omega
  clear hp
  go_enter Tryz.func46, Tryz.ntmps46
  go_wp2_with (first
    | (go_at_call 69; (with_reducible refine (HSz.out _).mono ?_); rintro e w' ⟨rfl, rfl⟩)
    | (go_at_call 70; (with_reducible refine (HI.out _ (by assumption)).mono ?_); rintro e w' ⟨rfl, rfl⟩))
  refine wp_loop_rounds 3 ?_
  rw [rounds_succ]; go_wp2
  rw [rounds_succ]; go_wp2
  rw [rounds_succ]; go_wp2_with (go_at_call 44; (with_reducible refine (HC.out _ (by omega) (by omega) _).mono ?_); rintro e w' ⟨rfl, rfl⟩)
  go_ret2
  exact ⟨rfl, rfl⟩
set_option maxHeartbeats 1000000 in
theorem rm_l13 (db n c k : Nat) (x y z u : Int) (x0 : 0 ≤ x) (x1 : x ≤ 255) (y0 : 0 ≤ y) (y1 : y ≤ 255) (z0 : 0 ≤ z) (z1 : z ≤ 255) (u0 : 0 ≤ u) (u1 : u ≤ 255) (hn : n ≤ 65536) (hk : k + 4 ≤ n)
    (hd : w.cell? ⟨rb, 1, none⟩ = some (.slice (some ⟨db, 0, none⟩) n c)) (hx : w.cell? ⟨db, k, none⟩ = some (.int .u8 x)) (hy : w.cell? ⟨db, k + 1, none⟩ = some (.int .u8 y)) (hz : w.cell? ⟨db, k + 2, none⟩ = some (.int .u8 z)) (hu : w.cell? ⟨db, k + 3, none⟩ = some (.int .u8 u)) (hp : placeF n (268435456 + k) 4 = true) :
    Calls Tryz.prog 46 #[.pointer (some ⟨rb, 0, none⟩), .int .i64 13, .int .i64 (268435456 + k)] w fun e w' => e = .returned (.tuple #[.int .u32 ((256 * (256 * (256 * u + z) + y) + x) % 4294967296), .bool true]) ∧ w = w' := by
  have HI := Lib.hid (fun w h => (rm_in rb n (some ⟨db, 0, none⟩) c (268435456 + k) 4 (.inr (.inr rfl)) hn (by omega) (by omega) w h))
  rw [hp] at HI
  have HSz : Hid (∀ w, Calls Tryz.prog 69 #[.int .i64 13] w fun e w' => e = .returned (.int .i64 4) ∧ w = w') := Lib.hid (fun w => rm_size 13 (by decide) w)
  have HC := Lib.hid (fun n h0 h1 w => c44 n h0 h1 w)
  have t0 : (0 : Int) ≤ k := by omega
  have t1 : (k : Int) + 4 ≤ n := by omega
  have e1 : (268435456 + (k : Int) - 268435456 + 1) = ((k + 1 : Nat) : Int) := by omega
  have e2 : (268435456 + (k : Int) - 268435456 + 2) = ((k + 2 : Nat) : Int) := by omega
  have e3 : (268435456 + (k : Int) - 268435456 + 3) = ((k + 3 : Nat) : Int) := by omega
  clear hp
  go_enter Tryz.func46, Tryz.ntmps46
  go_wp2_with (first
    | (go_at_call 69; (with_reducible refine (HSz.out _).mono ?_); rintro e w' ⟨rfl, rfl⟩)
    | (go_at_call 70; (with_reducible refine (HI.out _ (by assumption)).mono ?_); rintro e w' ⟨rfl, rfl⟩))
  refine wp_loop_rounds 5 ?_
  rw [rounds_succ]; go_wp2
  rw [rounds_succ]; go_wp2
  rw [rounds_succ]; go_wp2
  rw [rounds_succ]; go_wp2
  rw [rounds_succ]; go_wp2_with (go_at_call 44; (with_reducible refine (HC.out _ (by omega) (by omega) _).mono ?_); rintro e w' ⟨rfl, rfl⟩)
  go_ret2
  exact ⟨rfl, rfl⟩
end
/-- The document's machine as the program's: the same data, inputs, and the code's words decoded. -/
def RLay.lay (R : RLay) : Lay := ⟨R.rb, 0, 0, 0, R.db, 0, R.dn, R.dc, R.ia, R.ic, R.ws.map decM, R.ins⟩
theorem mod32 {v : Int} (h0 : 0 ≤ v) (h1 : v ≤ 4294967295) : v % 4294967296 = v := by omega
theorem rm_load_at {base : Nat} {R : RLay} {gb : Nat} {lv : Value} {s : MSt} {w0 : World} (h0 : RAt base w0 R gb lv s) (hw : RWf base R gb lv) (op a : Int) (ho : 11 ≤ op ∧ op ≤ 15) (a0 : 0 ≤ a) (a1 : a ≤ 4294967295) :
    ∃ (v : Int) (ok : Bool), 0 ≤ v ∧ v ≤ 4294967295 ∧ loadM R.lay s op a = (if ok = true then some v else none) ∧
      ∀ w gb lv, RAt base w R gb lv s → Calls Tryz.prog 46 #[.pointer (some ⟨R.rb, 0, none⟩), .int .i64 op, .int .i64 a] w fun e w' => e = .returned (.tuple #[.int .u32 v, .bool ok]) ∧ Fr (fun _ => False) w w' := by
  have b34 := h0.bw 34 (.inl (by decide))
  have u34 := h0.bu 34 (.inl (by decide)) rfl
  have hin := hw.inn
  by_cases hp : op = 13 ∧ a = 536870924
  · obtain ⟨rfl, rfl⟩ := hp
    by_cases hi : s.c 34 < (R.ins.length : Int)
    · have hk : (s.c 34).toNat < R.ins.length := by omega
      have hb := hw.insb _ hk
      have hv : loadM R.lay s 13 536870924 = some (R.ins.getD (s.c 34).toNat 0) := by
        unfold loadM inputM; rw [if_pos ⟨rfl, rfl⟩]; show some (if s.c 34 < (R.ins.length : Int) then _ else _) = _; rw [if_pos hi]; rfl
      refine ⟨R.ins.getD (s.c 34).toNat 0, true, hb.1, hb.2, hv, ?_⟩
      intro w gb lv h
      have h34 := h.num 6 (.inr (.inr (.inl rfl)))
      obtain ⟨ib, io, e, hc⟩ := h.inputs _ hk
      have hd := h.inp
      rw [e] at hd
      have hx : w.cell? ⟨R.rb, 6, none⟩ = some (.int .u32 ((s.c 34).toNat : Int)) := by rw [h34]; show some (Value.int .u32 (s.c 34)) = _; congr 2; omega
      refine (rm_load_inp R.rb w ib io R.ins.length R.ic (s.c 34).toNat _ (by omega) (by omega) hk hd hx hc).mono ?_
      rintro e w' ⟨rfl, k, rfl⟩
      exact ⟨rfl, (Fr.refl _ _).drewN k⟩
    · have hv : loadM R.lay s 13 536870924 = some 0 := by
        unfold loadM inputM; rw [if_pos ⟨rfl, rfl⟩]; show some (if s.c 34 < (R.ins.length : Int) then _ else _) = _; rw [if_neg hi]
      refine ⟨0, true, by omega, by omega, hv, ?_⟩
      intro w gb lv h
      have h34 := h.num 6 (.inr (.inr (.inl rfl)))
      refine (rm_load_inp_no R.rb w R.ia R.ins.length R.ic (s.c 34) b34 u34 (by omega) (by omega) h.inp h34).mono ?_
      rintro e w' ⟨rfl, k, rfl⟩
      exact ⟨rfl, (Fr.refl _ _).drewN k⟩
  · have hdn := hw.dn
    have hz : sizeF op = 1 ∨ sizeF op = 2 ∨ sizeF op = 4 := by
      have : op = 11 ∨ op = 12 ∨ op = 13 ∨ op = 14 ∨ op = 15 := by omega
      rcases this with rfl | rfl | rfl | rfl | rfl <;> decide
    cases hpl : placeF R.dn a (sizeF op) with
    | false =>
      refine ⟨0, false, by omega, by omega, ?_, ?_⟩
      · unfold loadM; rw [if_neg hp]; show (if placeF R.dn a (sizeF op) = true then _ else _) = _; rw [hpl]; simp
      · intro w gb lv h
        refine (rm_load_out R.rb w R.dn R.dc _ a op ho hp a0 a1 (by omega) h.dat hpl).mono ?_
        rintro e w' ⟨rfl, rfl⟩
        exact ⟨rfl, Fr.refl _ _⟩
    | true =>
      have hq : loadM R.lay s op a = some (loadF op (readM s (a - 268435456).toNat (sizeF op))) := by
        unfold loadM; rw [if_neg hp]; show (if placeF R.dn a (sizeF op) = true then _ else _) = _; rw [hpl, if_pos rfl]
      obtain ⟨k, rfl, hk, hks⟩ := place_in hz hpl
      rw [hk] at hq
      clear hp
      have hc : op = 11 ∨ op = 12 ∨ op = 13 ∨ op = 14 ∨ op = 15 := by omega
      rcases hc with rfl | rfl | rfl | rfl | rfl
      · have hks : (k : Int) + 1 ≤ R.dn := hks
        have hk0 : k < R.dn := by omega
        have hb := h0.bd k hk0
        have e : loadF 11 (readM s k (sizeF 11)) = signF (le1 (s.data k)) 8 := rfl
        rw [e, le1_val hb.1 hb.2, sign8 hb.1 hb.2] at hq
        by_cases hs : 128 ≤ s.data k
        · rw [if_pos hs] at hq
          refine ⟨_, true, by omega, by omega, hq, fun w gb lv h => ?_⟩
          refine (rm_l11a R.rb w R.db R.dn R.dc k _ hb.1 hb.2 (by omega) (by omega) h.dat (h.byte k hk0) hpl hs).mono ?_
          rintro e w' ⟨rfl, rfl⟩
          exact ⟨rfl, Fr.refl _ _⟩
        · rw [if_neg hs] at hq
          refine ⟨_, true, by omega, by omega, hq, fun w gb lv h => ?_⟩
          refine (rm_l11b R.rb w R.db R.dn R.dc k _ hb.1 hb.2 (by omega) (by omega) h.dat (h.byte k hk0) hpl hs).mono ?_
          rintro e w' ⟨rfl, rfl⟩
          exact ⟨rfl, Fr.refl _ _⟩
      · have hks : (k : Int) + 2 ≤ R.dn := hks
        have hk0 : k < R.dn := by omega
        have hk1 : k + 1 < R.dn := by omega
        have hb := h0.bd k hk0
        have hb1 := h0.bd (k + 1) hk1
        have e : loadF 12 (readM s k (sizeF 12)) = signF (le2 (s.data k) (s.data (k + 1))) 16 := rfl
        rw [e, le2_val hb.1 hb.2 hb1.1 hb1.2, show s.data k + s.data (k + 1) * 256 = 256 * s.data (k + 1) + s.data k by omega, sign16 (by omega) (by omega)] at hq
        by_cases hs : 32768 ≤ 256 * s.data (k + 1) + s.data k
        · rw [if_pos hs] at hq
          refine ⟨_, true, by omega, by omega, hq, fun w gb lv h => ?_⟩
          refine (rm_l12a R.rb w R.db R.dn R.dc k _ _ hb.1 hb.2 hb1.1 hb1.2 (by omega) (by omega) h.dat (h.byte k hk0) (h.byte (k + 1) hk1) hpl hs).mono ?_
          rintro e w' ⟨rfl, rfl⟩
          exact ⟨rfl, Fr.refl _ _⟩
        · rw [if_neg hs] at hq
          refine ⟨_, true, by omega, by omega, hq, fun w gb lv h => ?_⟩
          refine (rm_l12b R.rb w R.db R.dn R.dc k _ _ hb.1 hb.2 hb1.1 hb1.2 (by omega) (by omega) h.dat (h.byte k hk0) (h.byte (k + 1) hk1) hpl hs).mono ?_
          rintro e w' ⟨rfl, rfl⟩
          exact ⟨rfl, Fr.refl _ _⟩
      · have hks : (k : Int) + 4 ≤ R.dn := hks
        have hk0 : k < R.dn := by omega
        have hk1 : k + 1 < R.dn := by omega
        have hk2 : k + 2 < R.dn := by omega
        have hk3 : k + 3 < R.dn := by omega
        have hb := h0.bd k hk0
        have hb1 := h0.bd (k + 1) hk1
        have hb2 := h0.bd (k + 2) hk2
        have hb3 := h0.bd (k + 3) hk3
        have e : loadF 13 (readM s k (sizeF 13)) = le4 (s.data k) (s.data (k + 1)) (s.data (k + 2)) (s.data (k + 3)) := rfl
        rw [e, le4_val hb.1 hb.2 hb1.1 hb1.2 hb2.1 hb2.2 hb3.1 hb3.2] at hq
        refine ⟨(256 * (256 * (256 * s.data (k + 3) + s.data (k + 2)) + s.data (k + 1)) + s.data k) % 4294967296, true, by omega, by omega, ?_, fun w gb lv h => ?_⟩
        · exact hq.trans (congrArg some (by omega))
        · refine (rm_l13 R.rb w R.db R.dn R.dc k _ _ _ _ hb.1 hb.2 hb1.1 hb1.2 hb2.1 hb2.2 hb3.1 hb3.2 (by omega) (by omega) h.dat (h.byte k hk0) (h.byte (k + 1) hk1) (h.byte (k + 2) hk2) (h.byte (k + 3) hk3) hpl).mono ?_
          rintro e w' ⟨rfl, rfl⟩
          exact ⟨rfl, Fr.refl _ _⟩
      · have hks : (k : Int) + 1 ≤ R.dn := hks
        have hk0 : k < R.dn := by omega
        have hb := h0.bd k hk0
        have e : loadF 14 (readM s k (sizeF 14)) = le1 (s.data k) := rfl
        rw [e, le1_val hb.1 hb.2] at hq
        refine ⟨s.data k % 4294967296, true, by omega, by omega, ?_, fun w gb lv h => ?_⟩
        · exact hq.trans (congrArg some (by omega))
        · refine (rm_l14 R.rb w R.db R.dn R.dc k _ hb.1 hb.2 (by omega) (by omega) h.dat (h.byte k hk0) hpl).mono ?_
          rintro e w' ⟨rfl, rfl⟩
          exact ⟨rfl, Fr.refl _ _⟩
      · have hks : (k : Int) + 2 ≤ R.dn := hks
        have hk0 : k < R.dn := by omega
        have hk1 : k + 1 < R.dn := by omega
        have hb := h0.bd k hk0
        have hb1 := h0.bd (k + 1) hk1
        have e : loadF 15 (readM s k (sizeF 15)) = le2 (s.data k) (s.data (k + 1)) := rfl
        rw [e, le2_val hb.1 hb.2 hb1.1 hb1.2] at hq
        refine ⟨(256 * s.data (k + 1) + s.data k) % 4294967296, true, by omega, by omega, ?_, fun w gb lv h => ?_⟩
        · exact hq.trans (congrArg some (by omega))
        · refine (rm_l15 R.rb w R.db R.dn R.dc k _ _ hb.1 hb.2 hb1.1 hb1.2 (by omega) (by omega) h.dat (h.byte k hk0) (h.byte (k + 1) hk1) hpl).mono ?_
          rintro e w' ⟨rfl, rfl⟩
          exact ⟨rfl, Fr.refl _ _⟩
end Go.Proofs.YthhahfggbjegmaaGreat
