/-
  What the laws of layer 3 need besides: frames of arguments, lists that rise, machines apart.
-/
import Derived.Test.YtipfefkddnogjaaDevMm
namespace Go.Proofs.Ytipfefkddnogjaa
open Go.RowKit
set_option linter.unusedVariables false
set_option linter.unusedSimpArgs false
theorem Fr.frame {W W' : World} (h : Fr (fun _ => False) W W') (may : MemPlace → Prop) : W.keptBut W' may := by
  refine ⟨h.os, h.output, fun i hi => ?_⟩
  rw [h.block i hi id]
  split <;> simp_all
theorem Fr.same {W W' : World} (h : Fr (fun _ => False) W W') {p : MemPlace} (hp : p.block < W.heap.size) : W.sameAt W' p := by
  cases p with
  | cell b o => exact World.cell?_of_block (w := W) (h.block b hp id)
  | map b => exact h.block b hp id
theorem Fr.trod {H : Type} {enc : TypeId × Value → H} {P : Program} {t : TypeId} (hl : laidOutB P = true) (hr : P.readableRec t = true) (hrow : t < P.types.size) {W W' : World} {v : Value} {d : DataW H} {ps : List MemPlace}
    (h : DataW.Trod enc P W 0 (fun _ => true) true t v d ps) (hb : Fr (fun _ => False) W W') (hlt : ∀ x ∈ ps, x.block < W.heap.size) :
    DataW.Trod enc P W' 0 (fun b => decide (b < W.heap.size)) true t v d ps :=
  WideElems.Trod_stays hl hr hrow h (fun x hx => hb.same (hlt x hx)) (fun x hx => by simpa using hlt x hx)
theorem rising_of : ∀ (l : List Int), (∀ j, j + 1 < l.length → l.getD j 0 < l.getD (j + 1) 0) → Rising l
  | [], _ => List.Pairwise.nil
  | [a], _ => List.pairwise_singleton _ _
  | a :: b :: t, h => by
    have ih : Rising (b :: t) := rising_of (b :: t) (fun j hj => by
      have := h (j + 1) (by simp at hj ⊢; omega)
      simpa using this)
    have hab : a < b := by simpa using h 0 (by simp)
    refine List.pairwise_cons.2 ⟨fun x hx => ?_, ih⟩
    rcases List.mem_cons.1 hx with rfl | hx
    · exact hab
    · have := (List.pairwise_cons.1 ih).1 x hx
      omega
theorem adv_lay {La Lb : Lay} (h1 : La.code = Lb.code) (h2 : La.ins = Lb.ins) (h3 : La.dn = Lb.dn) (s : MSt) : advM La s = advM Lb s := by
  obtain ⟨b, cb, co, cc, db, dof, dn, dc, ia, ic, code, ins⟩ := La
  obtain ⟨b', cb', co', cc', db', dof', dn', dc', ia', ic', code', ins'⟩ := Lb
  simp only at h1 h2 h3
  subst h1 h2 h3
  rfl
theorem runM_lay {La Lb : Lay} (h1 : La.code = Lb.code) (h2 : La.ins = Lb.ins) (h3 : La.dn = Lb.dn) (n : Int) : ∀ (f : Nat) (l : List Int) (s : MSt), runM La n f l s = runM Lb n f l s := by
  intro f
  induction f with
  | zero => intro l s; rfl
  | succ f ih =>
    intro l s
    by_cases h : s.c 40 = 0 ∧ s.c 39 < n
    · rw [runM_round h, runM_round h]
      have e : roundM La l s = roundM Lb l s := by
        unfold roundM
        rw [adv_lay h1 h2 h3, adv_lay h1 h2 h3]
      rw [e]
      exact ih _ _
    · rw [runM_stop _ _ h, runM_stop _ _ h]
theorem runE_lay {La Lb : Lay} (h1 : La.code = Lb.code) (h2 : La.ins = Lb.ins) (h3 : La.dn = Lb.dn) (n : Int) (l : List Int) (s : MSt) : runE La n l s = runE Lb n l s := runM_lay h1 h2 h3 n _ l s
theorem runM_log {L : Lay} (hc : CodeOk L) {n : Int} : ∀ (f : Nat) (l : List Int) (s : MSt), (s.log.length : Int) ≤ s.c 39 → ((runM L n f l s).log.length : Int) ≤ (runM L n f l s).c 39 := by
  intro f
  induction f with
  | zero => intro l s h; exact h
  | succ f ih =>
    intro l s h
    by_cases hr : s.c 40 = 0 ∧ s.c 39 < n
    · rw [runM_round hr]
      exact ih _ _ (round_log hc h)
    · rw [runM_stop _ _ hr]; exact h
theorem runM_le {L : Lay} (hc : CodeOk L) {n : Int} : ∀ (f : Nat) (l : List Int) (s : MSt), s.c 39 ≤ max n (s.c 39) → (runM L n f l s).c 39 ≤ max n (s.c 39) := by
  intro f
  induction f with
  | zero => intro l s h; exact h
  | succ f ih =>
    intro l s h
    by_cases hr : s.c 40 = 0 ∧ s.c 39 < n
    · rw [runM_round hr]
      have hs : (roundM L l s).2.c 39 = s.c 39 + 1 ∨ (roundM L l s).2.c 39 = s.c 39 := by
        have key : ∀ u : MSt, (advM L u).c 39 = u.c 39 + 1 ∨ (advM L u).c 39 = u.c 39 := fun u => by
          unfold advM
          split
          · rename_i t ht
            left
            have := exec5_steps (by have := (fetch_ok hc u).2.2.2.1; omega) ht
            simp [updN, this]
          · right; simp [updN]
        unfold roundM
        split
        · exact key s
        · split
          · have := key (failM s); rw [(fail_steps s).1] at this; exact this
          · exact key s
      have := ih (roundM L l s).1 (roundM L l s).2 (by omega)
      omega
    · rw [runM_stop _ _ hr]; exact h
theorem runE_log {L : Lay} (hc : CodeOk L) {n : Int} {l : List Int} {s : MSt} (h : (s.log.length : Int) ≤ s.c 39) : ((runE L n l s).log.length : Int) ≤ (runE L n l s).c 39 := runM_log hc _ _ _ h
theorem runE_le {L : Lay} (hc : CodeOk L) {n : Int} {l : List Int} {s : MSt} : (runE L n l s).c 39 ≤ max n (s.c 39) := runM_le hc _ _ _ (by omega)
theorem I64s.mono {P Q : Nat → Prop} {w : World} {v : Value} {l : List Int} (h : I64s P w v l) (hq : ∀ b, b < w.heap.size → P b → Q b) : I64s Q w v l := by
  obtain ⟨a, c, e, h1, h2, h3⟩ := h
  by_cases h0 : l = []
  · exact ⟨a, c, e, h1, h2, .inl h0⟩
  · obtain ⟨b, o, ea, hp, hc⟩ := h3.resolve_left h0
    have hl : 0 < l.length := List.length_pos_iff.2 h0
    exact ⟨a, c, e, h1, h2, .inr ⟨b, o, ea, hq b (World.block_lt_of_cell? w _ (hc 0 hl)) hp, hc⟩⟩
theorem ListAt.form {k : IntKind} {w : World} {v : Value} {l : List Int} (h : ListAt k w v l) : ∃ a c, v = .slice a l.length c := by
  rcases h with ⟨rfl, rfl⟩ | ⟨ad, c, rfl, _⟩
  · exact ⟨none, 0, rfl⟩
  · exact ⟨_, c, rfl⟩
/-- A machine's blocks: which there are at all. -/
theorem At.lts {base : Nat} {w : World} {L : Lay} {lv : Value} {s : MSt} (h : At base w L lv s) (hw : Wf base L lv) : L.b < w.heap.size ∧ L.db < w.heap.size ∧ L.cb < w.heap.size ∧ (∀ g, lv.ownBlock = some g → g < w.heap.size) :=
  ⟨World.block_lt_of_cell? w _ h.logv, World.block_lt_of_cell? w _ (h.byte 0 (by have := hw.dn; omega)), World.block_lt_of_cell? w _ (h.insts 0 (by have := hw.cn; omega) 0 (by omega)), fun g hg => (h.own.lt g hg).2⟩
end Go.Proofs.Ytipfefkddnogjaa
