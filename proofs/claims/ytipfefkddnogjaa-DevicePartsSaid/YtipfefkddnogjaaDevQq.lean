/-
  Two machines that lie in one world, apart (layer 3).
-/
import Derived.Test.YtipfefkddnogjaaDevNn
namespace Go.Proofs.Ytipfefkddnogjaa
open Go.RowKit
set_option linter.unusedVariables false
set_option linter.unusedSimpArgs false
/-- What a machine reads is not written by another. -/
structure Free (L : Lay) (lv : Value) (L' : Lay) (lv' : Value) : Prop where
  foot : ∀ k, Foot L lv k → ¬ Foot L' lv' k
  code : ¬ Foot L' lv' L.cb
  ins : ∀ a, L.ia = some a → ¬ Foot L' lv' a.block
structure Pair (w0 W : World) (ba bb : Nat) (La : Lay) (lva : Value) (sa : MSt) (Lb : Lay) (lvb : Value) (sb : MSt) : Prop where
  aa : At ba W La lva sa
  wa : Wf ba La lva
  ab : At bb W Lb lvb sb
  wb : Wf bb Lb lvb
  fr : Fr (fun _ => False) w0 W
  na : NewM w0 La lva
  nb : NewM w0 Lb lvb
  fa : Free La lva Lb lvb
  fb : Free Lb lvb La lva
theorem Pair.swap {w0 W : World} {ba bb : Nat} {La Lb : Lay} {lva lvb : Value} {sa sb : MSt} (h : Pair w0 W ba bb La lva sa Lb lvb sb) : Pair w0 W bb ba Lb lvb sb La lva sa :=
  ⟨h.ab, h.wb, h.aa, h.wa, h.fr, h.nb, h.na, h.fb, h.fa⟩
theorem Pair.quiet {w0 W W' : World} {ba bb : Nat} {La Lb : Lay} {lva lvb : Value} {sa sb : MSt} (h : Pair w0 W ba bb La lva sa Lb lvb sb) (hf : Fr (fun _ => False) W W') : Pair w0 W' ba bb La lva sa Lb lvb sb :=
  ⟨h.aa.grown0 hf, h.wa, h.ab.grown0 hf, h.wb, h.fr.trans hf, h.na, h.nb, h.fa, h.fb⟩
theorem foot_lt {base : Nat} {w : World} {L : Lay} {lv : Value} {s : MSt} (h : At base w L lv s) (hw : Wf base L lv) {k : Nat} (hk : Foot L lv k) : k < w.heap.size := by
  obtain ⟨h1, h2, h3, h4⟩ := h.lts hw
  rcases hk with e | e | e
  · omega
  · omega
  · exact h4 k e
/-- The first of two machines was turned. -/
theorem Pair.turn {w0 W W' : World} {ba bb : Nat} {La Lb : Lay} {lva lvb : Value} {sa sb sa' : MSt} (h : Pair w0 W ba bb La lva sa Lb lvb sb) (hk : Okay ba La lva W W' sa') : ∃ lva', Pair w0 W' ba bb La lva' sa' Lb lvb sb := by
  obtain ⟨lva', a', w', r, g⟩ := hk
  have hold : ∀ k, k < W.heap.size → Foot La lva' k → Foot La lva k := fun k hk hf => by
    rcases hf with e | e | e
    · exact .inl e
    · exact .inr (.inl e)
    · rcases g k e with q | q
      · exact .inr (.inr q)
      · omega
  have hnew : ∀ k, Foot La lva' k → Foot La lva k ∨ W.heap.size ≤ k := fun k hf => by
    by_cases hk : k < W.heap.size
    · exact .inl (hold k hk hf)
    · exact .inr (by omega)
  obtain ⟨b1, b2, b3, b4⟩ := h.ab.lts h.wb
  have hfa : ∀ k, Foot Lb lvb k → ¬ Foot La lva k := h.fb.foot
  refine ⟨lva', a', w', h.ab.kept r (hfa _ (.inl rfl)) (hfa _ (.inr (.inl rfl))) (fun k e => hfa k (.inr (.inr e))) h.fb.code h.fb.ins, h.wb, okay_new h.fr h.na r, new_next h.na h.fr.size g, h.nb, ⟨fun k hf hb => ?_, h.fa.code, h.fa.ins⟩, ⟨fun k hb hf => ?_, fun hf => ?_, fun a e hf => ?_⟩⟩
  · rcases hnew k hf with q | q
    · exact h.fa.foot k q hb
    · have := foot_lt h.ab h.wb hb; omega
  · rcases hnew k hf with q | q
    · exact h.fb.foot k hb q
    · have := foot_lt h.ab h.wb hb; omega
  · rcases hnew _ hf with q | q
    · exact h.fb.code q
    · omega
  · rcases hnew _ hf with q | q
    · exact h.fb.ins a e q
    · have := h.ab.ilt a e; omega
/-- Two machines made one after the other. -/
theorem Pair.start {w0 w1 wa wb : World} {ds : List Int} {La Lb : Lay} (f0 : Fr (fun _ => False) w0 w1) (Aa : At w1.heap.size wa La (.slice none 0 0) (initM ds)) (Wa : Wf w1.heap.size La (.slice none 0 0)) (Fa : Fr (fun _ => False) w1 wa)
    (sa1 : w1.heap.size ≤ La.b) (sa2 : w1.heap.size ≤ La.db) (Ab : At wa.heap.size wb Lb (.slice none 0 0) (initM ds)) (Wb : Wf wa.heap.size Lb (.slice none 0 0)) (Fb : Fr (fun _ => False) wa wb)
    (sb1 : wa.heap.size ≤ Lb.b) (sb2 : wa.heap.size ≤ Lb.db) (sb3 : wa.heap.size ≤ Lb.cb) (sb4 : ∀ a, Lb.ia = some a → wa.heap.size ≤ a.block) :
    Pair w0 wb w1.heap.size wa.heap.size La (.slice none 0 0) (initM ds) Lb (.slice none 0 0) (initM ds) := by
  obtain ⟨a1, a2, a3, a4⟩ := Aa.lts Wa
  have z0 := f0.size
  have z1 := Fa.size
  refine ⟨Aa.grown0 Fb, Wa, Ab, Wb, (f0.trans Fa).trans Fb, new_start (by omega) (by omega), new_start (by omega) (by omega), ⟨fun k hk hk2 => ?_, fun hk2 => ?_, fun a e hk2 => ?_⟩, ⟨fun k hk hk2 => ?_, fun hk2 => ?_, fun a e hk2 => ?_⟩⟩
  · have h1 := foot_lt Aa Wa hk
    rcases hk2 with q | q | q
    · omega
    · omega
    · cases q
  · rcases hk2 with q | q | q
    · omega
    · omega
    · cases q
  · have := Aa.ilt a e
    rcases hk2 with q | q | q
    · omega
    · omega
    · cases q
  · have h1 := foot_lt Aa Wa hk2
    rcases hk with q | q | q
    · omega
    · omega
    · cases q
  · have h1 := foot_lt Aa Wa hk2
    omega
  · have h1 := foot_lt Aa Wa hk2
    have := sb4 a e
    omega
/-- An old list is far from a machine. -/
theorem far_old {w0 W : World} {L : Lay} {lv : Value} (hn : NewM w0 L lv) (hf : Fr (fun _ => False) w0 W) {v : Value} {l : List Int} (h : I64s (fun _ => True) w0 v l) : I64s (Far L lv W) W v l := by
  obtain ⟨a, c, e, h1, h2, h3⟩ := h
  by_cases h0 : l = []
  · exact ⟨a, c, e, h1, h2, .inl h0⟩
  · obtain ⟨b, o, ea, hp, hc⟩ := h3.resolve_left h0
    have hb := World.block_lt_of_cell? w0 _ (hc 0 (List.length_pos_iff.2 h0))
    have hsz := hf.size
    exact ⟨a, c, e, h1, h2, .inr ⟨b, o, ea, ⟨fun q => hn b hb (.inl q), fun q => hn b hb (.inr (.inl q)), fun q => hn b hb (.inr (.inr q)), by show b < W.heap.size; have : b < w0.heap.size := hb; omega⟩, fun k hk => hf.cell (hc k hk) id⟩⟩
/-- A list of the call's own is far from a machine that was there before it. -/
theorem far_own {base : Nat} {W W' : World} {L : Lay} {lv : Value} {s : MSt} (ha : At base W L lv s) (hw : Wf base L lv) (hf : Fr (fun _ => False) W W') {v : Value} {l : List Int}
    (h : W'.ownsRow W.heap.size 3 1 v l.length (l.map (Value.int .i64))) : I64s (Far L lv W') W' v l := by
  by_cases hv : v = .slice none 0 0
  · have hl : l.length = 0 := by
      rcases h.2 with ⟨_, e⟩ | ⟨g, c, cur, e, _⟩
      · exact e
      · rw [hv] at e; cases e
    exact ⟨none, 0, by rw [hv, hl], by omega, by omega, .inl (List.length_eq_zero_iff.1 hl)⟩
  · rcases h.2 with ⟨e, _⟩ | ⟨g, c, cur, e, hb, hg, hnc, hcm, _⟩
    · exact absurd e hv
    · refine ⟨_, c, e, hnc, by unfold maxLen at hcm; omega, .inr ⟨g, 0, rfl, ⟨?_, ?_, ?_, ?_⟩, fun k hk => ?_⟩⟩
      · have := foot_lt ha hw (.inl rfl); omega
      · have := foot_lt ha hw (.inr (.inl rfl)); omega
      · intro q; have := foot_lt ha hw (.inr (.inr q)); omega
      · exact (Array.getElem?_eq_some_iff.1 hg).1
      · have h' := h
        rw [e] at h'
        rw [Nat.zero_add, h'.cellAt k (by omega)]
        simp [hk, List.getD_eq_getElem?_getD]
end Go.Proofs.Ytipfefkddnogjaa
