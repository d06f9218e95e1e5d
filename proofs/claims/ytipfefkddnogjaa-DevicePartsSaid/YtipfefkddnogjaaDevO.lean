/-
  How a machine lies in a world behind each kind of write.
-/
import Derived.Test.YtipfefkddnogjaaDevN
namespace Go.Proofs.Ytipfefkddnogjaa
open Go.RowKit
set_option linter.unusedVariables false
set_option linter.unusedSimpArgs false
theorem notFoot_cb {base : Nat} {L : Lay} {lv : Value} (h : Wf base L lv) : ¬ Foot L lv L.cb := by
  rintro (e | e | e)
  · exact h.cb e
  · exact h.cd e
  · exact (h.lb _ e).2.2.1 rfl
theorem notFoot_ia {base : Nat} {L : Lay} {lv : Value} (h : Wf base L lv) {a : Addr} (ha : L.ia = some a) : ¬ Foot L lv a.block := by
  rintro (e | e | e)
  · exact (h.ib a ha).1 e
  · exact (h.ib a ha).2 e
  · exact (h.lb _ e).2.2.2 a ha rfl
/-- Elsewhere something was written. -/
theorem At.kept {base : Nat} {w w' : World} {L : Lay} {lv : Value} {s : MSt} {F : Nat → Prop} (h : At base w L lv s) (hf : Fr F w w')
    (nb : ¬ F L.b) (nd : ¬ F L.db) (nl : ∀ k, lv.ownBlock = some k → ¬ F k) (nc : ¬ F L.cb) (ni : ∀ a, L.ia = some a → ¬ F a.block) : At base w' L lv s where
  num o ho := hf.cell (h.num o ho) nb
  code := hf.cell h.code nb
  dat := hf.cell h.dat nb
  inp := hf.cell h.inp nb
  logv := hf.cell h.logv nb
  own := hf.owns h.own nl
  free o ho := by
    have hc : ∃ v, w.cell? ⟨L.b, o, none⟩ = some v := by
      by_cases h1 : isNum o
      · exact ⟨_, h.num o h1⟩
      · have : o = 35 ∨ o = 36 ∨ o = 37 ∨ o = 38 := by unfold isNum at h1; omega
        rcases this with rfl | rfl | rfl | rfl
        · exact ⟨_, h.code⟩
        · exact ⟨_, h.dat⟩
        · exact ⟨_, h.inp⟩
        · exact ⟨_, h.logv⟩
    obtain ⟨v, hv⟩ := hc
    exact (hf.frozen hv nb).trans (h.free o ho)
  byte k hk := hf.cell (h.byte k hk) nd
  dfree k hk := (hf.frozen (h.byte k hk) nd).trans (h.dfree k hk)
  insts k hk j hj := hf.cell (h.insts k hk j hj) nc
  inputs k hk := by
    obtain ⟨b, o, e, hc⟩ := h.inputs k hk
    exact ⟨b, o, e, hf.cell hc (ni ⟨b, o, none⟩ e)⟩
  bw := h.bw
  bu := h.bu
  bd := h.bd
  bb := Nat.le_trans h.bb hf.size
  ilt a ha := Nat.lt_of_lt_of_le (h.ilt a ha) hf.size
theorem At.grown0 {base : Nat} {w w' : World} {L : Lay} {lv : Value} {s : MSt} (h : At base w L lv s) (hf : Fr (fun _ => False) w w') : At base w' L lv s :=
  h.kept hf id id (fun _ _ => id) id (fun _ _ => id)
theorem At.setNum {base : Nat} {w : World} {L : Lay} {lv : Value} {s : MSt} (h : At base w L lv s) (hw : Wf base L lv) (o : Nat) (ho : isNum o) (v : Int) (v0 : 0 ≤ v) (v1 : kindAt o = .u32 → v ≤ 4294967295) :
    At base (w.setCell ⟨L.b, o, none⟩ (.int (kindAt o) v)) L lv { s with c := updN s.c o v } := by
  have hx : ∀ o', o' ≠ o → (w.setCell ⟨L.b, o, none⟩ (.int (kindAt o) v)).cell? ⟨L.b, o', none⟩ = w.cell? ⟨L.b, o', none⟩ := fun o' hne =>
    World.cell?_setCell_other _ _ _ _ (fun e => hne (by injection e with e1 e2; first | exact e2.symm | exact e1.symm))
  have hy : ∀ (b o' : Nat), b ≠ L.b → (w.setCell ⟨L.b, o, none⟩ (.int (kindAt o) v)).cell? ⟨b, o', none⟩ = w.cell? ⟨b, o', none⟩ := fun b o' hne =>
    World.cell?_setCell_other _ _ _ _ (fun e => hne (by injection e with e1 e2; first | exact e2.symm | exact e1.symm))
  have hn35 : ∀ k, isNum k → k ≠ 35 ∧ k ≠ 36 ∧ k ≠ 37 ∧ k ≠ 38 := fun k hk => by unfold isNum at hk; omega
  obtain ⟨n1, n2, n3, n4⟩ := hn35 o ho
  refine ⟨fun o' ho' => ?_, ?_, ?_, ?_, ?_, ?_, fun o' ho' => (World.frozen?_setCell _ _ _ _).trans (h.free o' ho'), fun k hk => ?_, fun k hk => (World.frozen?_setCell _ _ _ _).trans (h.dfree k hk), fun k hk j hj => ?_, fun k hk => ?_, fun o' ho' => ?_, fun o' ho' hk => ?_, h.bd, by simpa [World.setCell] using h.bb, by simpa [World.setCell] using h.ilt⟩
  · by_cases e : o' = o
    · subst e
      rw [World.cell?_setCell_same _ _ _ (h.num o' ho)]
      simp [updN]
    · rw [hx o' e, h.num o' ho']
      simp [updN, e]
  · rw [hx 35 (Ne.symm n1)]; exact h.code
  · rw [hx 36 (Ne.symm n2)]; exact h.dat
  · rw [hx 37 (Ne.symm n3)]; exact h.inp
  · rw [hx 38 (Ne.symm n4)]; exact h.logv
  · exact (Fr.setCell (F := fun k => k = L.b) w ⟨L.b, o, none⟩ _ rfl).owns h.own (fun k hk e => (hw.lb k hk).1 e)
  · rw [hy _ _ hw.db]; exact h.byte k hk
  · rw [hy _ _ hw.cb]; exact h.insts k hk j hj
  · obtain ⟨b, o', e, hc⟩ := h.inputs k hk
    exact ⟨b, o', e, by rw [hy _ _ (hw.ib ⟨b, o', none⟩ e).1]; exact hc⟩
  · show 0 ≤ updN s.c o v o'
    unfold updN; split
    · exact v0
    · exact h.bw o' ho'
  · show updN s.c o v o' ≤ 4294967295
    unfold updN; split
    · rename_i e; subst e; exact v1 hk
    · exact h.bu o' ho' hk
theorem At.setByte {base : Nat} {w : World} {L : Lay} {lv : Value} {s : MSt} (h : At base w L lv s) (hw : Wf base L lv) (k : Nat) (hk : k < L.dn) (v : Int) (v0 : 0 ≤ v ∧ v ≤ 255) :
    At base (w.setCell ⟨L.db, L.dof + k, none⟩ (.int .u8 v)) L lv { s with data := updN s.data k v } := by
  have hy : ∀ (b o' : Nat), b ≠ L.db → (w.setCell ⟨L.db, L.dof + k, none⟩ (.int .u8 v)).cell? ⟨b, o', none⟩ = w.cell? ⟨b, o', none⟩ := fun b o' hne =>
    World.cell?_setCell_other _ _ _ _ (fun e => hne (by injection e with e1 e2; first | exact e2.symm | exact e1.symm))
  refine ⟨fun o' ho' => ?_, ?_, ?_, ?_, ?_, ?_, fun o' ho' => (World.frozen?_setCell _ _ _ _).trans (h.free o' ho'), fun j hj => ?_, fun j hj => (World.frozen?_setCell _ _ _ _).trans (h.dfree j hj), fun j hj i hi => ?_, fun j hj => ?_, h.bw, h.bu, fun j hj => ?_, by simpa [World.setCell] using h.bb, by simpa [World.setCell] using h.ilt⟩
  · rw [hy _ _ (Ne.symm hw.db)]; exact h.num o' ho'
  · rw [hy _ _ (Ne.symm hw.db)]; exact h.code
  · rw [hy _ _ (Ne.symm hw.db)]; exact h.dat
  · rw [hy _ _ (Ne.symm hw.db)]; exact h.inp
  · rw [hy _ _ (Ne.symm hw.db)]; exact h.logv
  · exact (Fr.setCell (F := fun k => k = L.db) w ⟨L.db, L.dof + k, none⟩ _ rfl).owns h.own (fun k hk e => (hw.lb k hk).2.1 e)
  · show _ = some (Value.int .u8 (updN s.data k v j))
    by_cases e : j = k
    · subst e
      rw [World.cell?_setCell_same _ _ _ (h.byte j hj)]
      simp [updN]
    · rw [World.cell?_setCell_other _ _ _ _ (fun q => e (by injection q with q1 q2; omega)), h.byte j hj]
      simp [updN, e]
  · rw [hy _ _ hw.cd]; exact h.insts j hj i hi
  · obtain ⟨b, o', e, hc⟩ := h.inputs j hj
    exact ⟨b, o', e, by rw [hy _ _ (hw.ib ⟨b, o', none⟩ e).2]; exact hc⟩
  · show 0 ≤ updN s.data k v j ∧ updN s.data k v j ≤ 255
    unfold updN; split
    · exact v0
    · exact h.bd j hj
end Go.Proofs.Ytipfefkddnogjaa
