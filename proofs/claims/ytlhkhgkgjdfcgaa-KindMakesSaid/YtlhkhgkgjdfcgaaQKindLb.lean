/-
  Tables of types (layer 8): what Type tells, for a type and for none, beside the document's table.
-/
import Derived.Test.YtlhkhgkgjdfcgaaQKindKb
import Derived.LoopTactic
import Derived.Deep.Quiet
import Derived.BigQuiet
import Derived.Outline
namespace Go.Proofs.Ytlhkhgkgjdfcgaa
open Go.RowKit
set_option linter.unusedVariables false
set_option linter.unusedSimpArgs false
theorem set5o {w : World} {g : Nat} {x0 x1 x2 x3 x4 : Value} (b0 : w.cell? ⟨g, 0, none⟩ = some x0) (b1 : w.cell? ⟨g, 1, none⟩ = some x1) (b2 : w.cell? ⟨g, 2, none⟩ = some x2) (b3 : w.cell? ⟨g, 3, none⟩ = some x3) (b4 : w.cell? ⟨g, 4, none⟩ = some x4) (v0 v1 v2 v3 v4 : Value) (o : Obj) :
    ((((((w.setCell ⟨g, 0, none⟩ v0).setCell ⟨g, 1, none⟩ v1).setCell ⟨g, 2, none⟩ v2).setCell ⟨g, 3, none⟩ v3).setCell ⟨g, 4, none⟩ v4).alloc o).cell? ⟨g, 0, none⟩ = some v0 ∧
    ((((((w.setCell ⟨g, 0, none⟩ v0).setCell ⟨g, 1, none⟩ v1).setCell ⟨g, 2, none⟩ v2).setCell ⟨g, 3, none⟩ v3).setCell ⟨g, 4, none⟩ v4).alloc o).cell? ⟨g, 1, none⟩ = some v1 ∧
    ((((((w.setCell ⟨g, 0, none⟩ v0).setCell ⟨g, 1, none⟩ v1).setCell ⟨g, 2, none⟩ v2).setCell ⟨g, 3, none⟩ v3).setCell ⟨g, 4, none⟩ v4).alloc o).cell? ⟨g, 2, none⟩ = some v2 ∧
    ((((((w.setCell ⟨g, 0, none⟩ v0).setCell ⟨g, 1, none⟩ v1).setCell ⟨g, 2, none⟩ v2).setCell ⟨g, 3, none⟩ v3).setCell ⟨g, 4, none⟩ v4).alloc o).cell? ⟨g, 3, none⟩ = some v3 ∧
    ((((((w.setCell ⟨g, 0, none⟩ v0).setCell ⟨g, 1, none⟩ v1).setCell ⟨g, 2, none⟩ v2).setCell ⟨g, 3, none⟩ v3).setCell ⟨g, 4, none⟩ v4).alloc o).cell? ⟨g, 4, none⟩ = some v4 := by
  obtain ⟨h0, h1, h2, h3, h4⟩ := set5' b0 b1 b2 b3 b4 v0 v1 v2 v3 v4
  have hf := fr_al (Fr.refl (fun _ => False) (((((w.setCell ⟨g, 0, none⟩ v0).setCell ⟨g, 1, none⟩ v1).setCell ⟨g, 2, none⟩ v2).setCell ⟨g, 3, none⟩ v3).setCell ⟨g, 4, none⟩ v4)) o
  exact ⟨hf.cell h0 id, hf.cell h1 id, hf.cell h2 id, hf.cell h3 id, hf.cell h4 id⟩
set_option maxHeartbeats 2000000 in
theorem type_err (p : Value) (n er : Int) (e : Ent) (w : World) (H : EntH w p n er e) (he : er ≠ 0) :
    Calls Try.prog 13 #[p, .int .i64 n] w fun r w' => r = .returned (.tuple #[.agg #[.int .i64 0, .int .i64 0, .int .i64 0, .string ⟨#[]⟩, .slice none 0 0], .int .i64 er]) ∧ Fr (fun _ => False) w w' := by
  have HB := type_box w
  have HF := Lib.hid (fr_al (Fr.refl (fun _ => False) w) (.cells #[.int .i64 0, .int .i64 0, .int .i64 0, .string ⟨#[]⟩, .slice none 0 0] 38))
  have hb : (er != 0) = true := by rw [bne_iff_ne]; exact he
  unfold EntH at H
  clear he
  go_enter Try.func13, Try.ntmps13
  go_wp2_with (go_at_call 33; (with_reducible refine (H.out _ HF.out).mono ?_); rintro r w2 ⟨rfl, hf⟩; obtain ⟨hv, lw, hb2⟩ := HB.out _ hf; have HV := Lib.hid hv; obtain ⟨⟨b0, k0⟩, f0⟩ := hb2 0 (by decide); obtain ⟨⟨b1, k1⟩, f1⟩ := hb2 1 (by decide); obtain ⟨⟨b2, k2⟩, f2⟩ := hb2 2 (by decide); obtain ⟨⟨b3, k3⟩, f3⟩ := hb2 3 (by decide); obtain ⟨⟨b4, k4⟩, f4⟩ := hb2 4 (by decide); clear hb2 hv hf)
  exact bodyPost_ret (v := .tuple #[.agg #[.int .i64 0, .int .i64 0, .int .i64 0, .string ⟨#[]⟩, .slice none 0 0], .int .i64 er]) (by simp [results, Try.results13, go_sem, set5o k0 k1 k2 k3 k4]) rfl ⟨rfl, fr_al (fr_set (fr_set (fr_set (fr_set (fr_set HV.out (Nat.le_refl _) _ _) (Nat.le_refl _) _ _) (Nat.le_refl _) _ _) (Nat.le_refl _) _ _) (Nat.le_refl _) _ _) _⟩
theorem Both.nof {w0 w : World} {tb : Nat} {a : Option Addr} {es : List Ent} {fss : Nat → List Fld} {rs : List RT} {rk : Int → Nat} (h : Both w0 w tb a es fss rs rk) {N : Nat} (hN : N < rs.length) :
    FldAt w (entF es (N : Int)).fa (entF es (N : Int)).fn (dF fss N) ∧ (dF fss N).length ≤ 1000 ∧ (dF fss N = [] → (entF es (N : Int)).fa = none ∧ (entF es (N : Int)).fn = 0 ∧ (entF es (N : Int)).fc = 0) := by
  have hl := h.mat.len
  unfold entF dF
  rw [if_neg (by omega)]
  by_cases h3 : N < 3
  · rw [if_pos (by omega), if_pos h3]
    obtain ⟨l, l2⟩ := firstEnt_lie es (N : Int)
    exact ⟨⟨l2, fun k hk => absurd hk (Nat.not_lt_zero _)⟩, Nat.zero_le _, l.nof⟩
  · rw [if_neg (by omega), if_neg h3]
    have e : ((N : Int) - 3).toNat = N - 3 := by omega
    rw [e]
    obtain ⟨v, _, hfl⟩ := h.tab.ex
    exact ⟨(hfl _ (by omega)).1, h.tab.few _, h.mat.nof _ (by omega)⟩
theorem type_both {w0 w : World} {tb : Nat} {a : Option Addr} {es : List Ent} {fss : Nat → List Fld} {rs : List RT} {rk : Int → Nat} (h : Both w0 w tb a es fss rs rk) {N : Nat} (hN : N < rs.length) :
    Calls Try.prog 13 #[.pointer (some ⟨tb, 0, none⟩), .int .i64 (N : Int)] w fun r w' => ∃ g2 c2, r = .returned (.tuple #[.agg #[.int .i64 (entF es (N : Int)).kind, .int .i64 (entF es (N : Int)).elem, .int .i64 (entF es (N : Int)).len, .string (entF es (N : Int)).name, .slice g2 (entF es (N : Int)).fn c2], .int .i64 0]) ∧ Fr (fun _ => False) w w' ∧ FldAt w' g2 (entF es (N : Int)).fn (dF fss N) := by
  obtain ⟨l3, l4, l1⟩ := h.nof hN
  have h0 := (h.mat.ent hN).1
  obtain ⟨v, hv, _⟩ := h.tab.ex
  have H : EntH w (.pointer (some ⟨tb, 0, none⟩)) (N : Int) 0 (entF es (N : Int)) := by have := entry_ent hv (N : Int) _ rfl; rw [h0] at this; exact this
  refine type_ok _ (N : Int) _ w (fun g2 c2 V => FldAt V g2 (entF es (N : Int)).fn (dF fss N)) H (Lib.hid fun W hW hlt => ?_)
  generalize entF es (N : Int) = e at *
  generalize dF fss N = fs at *
  by_cases hf : fs = []
  · obtain ⟨e1, e2, e3⟩ := l1 hf
    rw [e1, e2, e3]
    refine (clone_nil W).mono fun r w' ⟨a, b⟩ => ⟨none, 0, a, b ▸ Fr.refl _ _, fun V _ => ⟨by rw [hf]; rfl, fun k hk => by rw [hf] at hk; simp at hk⟩⟩
  · have hl : 1 ≤ fs.length := List.length_pos_iff.2 hf
    obtain ⟨g, o, ea, _⟩ := l3.2 0 (by omega)
    have l3' := l3.quiet hW
    rw [ea] at l3' ⊢
    refine (clone_at W g o e.fn e.fc fs l3' ⟨hl, l4⟩).mono fun r w' hr => ?_
    obtain ⟨g2, c2, r1, r2, r3, r4, r5⟩ := hr
    refine ⟨some ⟨g2, 0, none⟩, c2, r1, r3, fun V hV => r2.kept hV (fun g' o' e' _ hh => ?_)⟩
    injection e' with e'
    injection e' with e'
    omega
/-- No such type. -/
theorem Both.none_of {w0 w : World} {tb : Nat} {a : Option Addr} {es : List Ent} {fss : Nat → List Fld} {rs : List RT} {rk : Int → Nat} (h : Both w0 w tb a es fss rs rk) {i : Int} (hi : ¬ (0 ≤ i ∧ i < rs.length)) :
    (Calls Try.prog 13 #[.pointer (some ⟨tb, 0, none⟩), .int .i64 i] w fun r w' => r = .returned (.tuple #[.agg #[.int .i64 0, .int .i64 0, .int .i64 0, .string ⟨#[]⟩, .slice none 0 0], .int .i64 4]) ∧ Fr (fun _ => False) w w') ∧ szE es i = 0 ∧ alE es i = 0 ∧ (entF es i).kind = 0 := by
  have hl := h.mat.len
  obtain ⟨v, hv, _⟩ := h.tab.ex
  have he : entE es i = 4 := by unfold entE; rw [if_pos (by omega)]
  have hf : entF es i = ent0 := by unfold entF; rw [if_pos (by omega)]
  have H : EntH w (.pointer (some ⟨tb, 0, none⟩)) i 4 (entF es i) := by have := entry_ent hv i _ rfl; rw [he] at this; exact this
  refine ⟨type_err _ i 4 _ w H (by decide), ?_⟩
  unfold szE alE
  rw [hf]
  exact ⟨rfl, rfl, rfl⟩
/-- A region that draws its order, whose operations yield one value in every world of a class and stay in it: one walk, in the order of the text. -/
theorem wp_region_class {P : Program} (C : World → Prop) {id : Nat} {Q : Exit → Act → World → Prop} {a : Act} {w : World} {l : List Oper} (hm : P.follows .mixedOrders = true) (hB : Region.lexB .any l.toArray = true) (hC : C w.drew)
    (h : wpQuiet P l.toArray C (fun a' => ∀ w', C w' → Q .normal a' w') l a) : (Code.region id l.toArray true).wp P Q a w :=
  wp_region_quiet (C := C) hm hB hC (by simpa using h)
end Go.Proofs.Ytlhkhgkgjdfcgaa
