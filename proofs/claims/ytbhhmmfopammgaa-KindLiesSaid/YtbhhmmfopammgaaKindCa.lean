/-
  The document's own tables of types (layer 8): put.
-/
import Derived.Test.YtbhhmmfopammgaaKindBa
import Derived.LoopTactic
import Derived.Deep.AppendLies
import Derived.Deep.QuietTactic
import Derived.BigQuiet
import Derived.Outline
namespace Go.Proofs.Ytbhhmmfopammgaa
open Go.RowKit
set_option linter.unusedVariables false
set_option linter.unusedSimpArgs false
def zerosR : Array Value := #[.int .i64 0, .int .i64 0, .int .i64 0, .string ⟨#[]⟩, .slice none 0 0, .bool false]
theorem info_rt : (Try.prog.info? 46).map (fun i => (i.zero, i.size, i.bytes)) = some (some (.agg zerosR), 6, 72) := by kernel_rfl
def rsame (x t : RT) : Bool := t.kind == x.kind && t.elem == x.elem && t.len == x.len && x.kind != 5
def putN (rs : List RT) (x : RT) : Int := if rs.findIdx (rsame x) < rs.length then (rs.findIdx (rsame x) : Int) else if 400 ≤ rs.length then 0 else rs.length
def putX (rs : List RT) (x : RT) : Int := if rs.findIdx (rsame x) < rs.length then 0 else if 400 ≤ rs.length then 8 else 0
def putL (rs : List RT) (x : RT) : List RT := if rs.findIdx (rsame x) < rs.length then rs else if 400 ≤ rs.length then rs else rs ++ [x]
/-- What a making answers: a number, a table, an error. -/
def MadeP (w : World) (a0 : Option Addr) (rs0 : List RT) (N E : Int) (rs : List RT) (r : Ending) (w' : World) : Prop :=
  ∃ a n c, r = .returned (.agg #[.int .i64 N, .slice a n c, .int .i64 E]) ∧ RAt w' a n rs ∧ Fr (fun _ => False) w w' ∧ ((a = a0 ∧ rs = rs0) ∨ ∃ g, a = some ⟨g, 0, none⟩ ∧ w.heap.size ≤ g ∧ g < w'.heap.size)
theorem made_lift {w W w2 w3 : World} {a0 : Option Addr} {n0 : Nat} {rs0 : List RT} {N E : Int} {rs : List RT} {a : Option Addr} {n c : Nat} (h0 : RAt w a0 n0 rs0) (hW : w.heap.size < W.heap.size) (hr : RAt w2 a n rs) (hd : (a = a0 ∧ rs = rs0) ∨ ∃ g, a = some ⟨g, 0, none⟩ ∧ W.heap.size ≤ g ∧ g < w2.heap.size)
    (h3 : Fr (fun j => j = w.heap.size) w2 w3) (hf : Fr (fun _ => False) w w3) : MadeP w a0 rs0 N E rs (.returned (.agg #[.int .i64 N, .slice a n c, .int .i64 E])) w3 := by
  refine ⟨a, n, c, rfl, hr.kept h3 (fun g o e hne hh => ?_), hf, hd.imp id (fun ⟨g, e, hg, hg2⟩ => ⟨g, e, by omega, Nat.lt_of_lt_of_le hg2 h3.size⟩)⟩
  rcases hd with ⟨e1, e2⟩ | ⟨g', e1, hg, _⟩
  · subst e1 e2
    obtain ⟨g', e3, hc⟩ := h0.2 0 (by omega)
    rw [e] at e3
    injection e3 with e3
    injection e3 with e3
    have h1 : ∃ x, (rs.getD 0 rt0).vals[0]? = some x := ⟨_, rfl⟩
    obtain ⟨x, h1⟩ := h1
    have := World.block_lt_of_cell? w _ ((hc 0 (by decide)).trans h1)
    simp at this
    omega
  · rw [e] at e1
    injection e1 with e1
    injection e1 with e1
    omega
theorem made_same {w w3 : World} {a0 : Option Addr} {n0 c : Nat} {rs0 : List RT} {N E : Int} (h0 : RAt w a0 n0 rs0) (hf : Fr (fun _ => False) w w3) : MadeP w a0 rs0 N E rs0 (.returned (.agg #[.int .i64 N, .slice a0 n0 c, .int .i64 E])) w3 :=
  ⟨a0, n0, c, rfl, h0.quiet hf, hf, .inl ⟨rfl, rfl⟩⟩
theorem putP_yes {w w' : World} {a : Option Addr} {n c k : Nat} {rs : List RT} {x : RT} (h : RAt w a n rs) (hk : k < rs.length) (h1 : rsame x (rs.getD k rt0) = true) (hn : ∀ j, j < k → rsame x (rs.getD j rt0) = false) (hf : Fr (fun _ => False) w w') :
    MadeP w a rs (putN rs x) (putX rs x) (putL rs x) (.returned (.agg #[.int .i64 k, .slice a n c, .int .i64 0])) w' := by
  unfold putN putX putL; rw [rt_at hk h1 hn, if_pos hk, if_pos hk, if_pos hk]; exact made_same h hf
theorem putP_full {w w' : World} {a : Option Addr} {n c : Nat} {rs : List RT} {x : RT} (h : RAt w a n rs) (hn : ∀ j, j < rs.length → rsame x (rs.getD j rt0) = false) (h4 : 400 ≤ n) (hf : Fr (fun _ => False) w w') :
    MadeP w a rs (putN rs x) (putX rs x) (putL rs x) (.returned (.agg #[.int .i64 0, .slice a n c, .int .i64 8])) w' := by
  have := h.1
  unfold putN putX putL; rw [rt_no hn, if_neg (Nat.lt_irrefl _), if_neg (Nat.lt_irrefl _), if_neg (Nat.lt_irrefl _), if_pos (by omega), if_pos (by omega), if_pos (by omega)]; exact made_same h hf
theorem putP_new {w w' : World} {a : Option Addr} {n c g base : Nat} {rs : List RT} {x : RT} (h : RAt w a n rs) (hn : ∀ j, j < rs.length → rsame x (rs.getD j rt0) = false) (h4 : n < 400) (hf : Fr (fun _ => False) w w') (hb : w.heap.size ≤ base)
    (ho : w'.ownsRow base 46 6 (.slice (some ⟨g, 0, none⟩) (n + 1) c) (n + 1) ((rs ++ [x]).flatMap RT.vals)) :
    MadeP w a rs (putN rs x) (putX rs x) (putL rs x) (.returned (.agg #[.int .i64 n, .slice (some ⟨g, 0, none⟩) (n + 1) c, .int .i64 0])) w' := by
  have := h.1
  unfold putN putX putL; rw [rt_no hn, if_neg (Nat.lt_irrefl _), if_neg (Nat.lt_irrefl _), if_neg (Nat.lt_irrefl _), if_neg (by omega), if_neg (by omega), if_neg (by omega)]
  exact ⟨_, _, c, by rw [this], RAt.of_own ho (by simp; omega), hf, .inr ⟨g, rfl, by have := (ho.lt g rfl).1; omega, (ho.lt g rfl).2⟩⟩
/-- The boxes of a put: the type's, and the result's. -/
structure PutW (w W : World) (x : RT) : Prop where
  fr : Fr (fun _ => False) w W
  sz : w.heap.size + 2 ≤ W.heap.size
  z0 : W.cell? ⟨w.heap.size, 0, none⟩ = some (.int .i64 x.kind)
  z1 : W.cell? ⟨w.heap.size, 1, none⟩ = some (.int .i64 x.elem)
  z2 : W.cell? ⟨w.heap.size, 2, none⟩ = some (.int .i64 x.len)
  z3 : W.cell? ⟨w.heap.size, 3, none⟩ = some (.string x.name)
  z4 : W.cell? ⟨w.heap.size, 4, none⟩ = some (.slice x.fa x.fn x.fc)
  z5 : W.cell? ⟨w.heap.size, 5, none⟩ = some (.bool x.opn)
  r : ∀ j, j < 3 → (∃ y, W.cell? ⟨w.heap.size + 1, j, none⟩ = some y) ∧ W.frozen? ⟨w.heap.size + 1, j, none⟩ = false
theorem PutW.kept {w W W' : World} {x : RT} {F : Nat → Prop} (h : PutW w W x) (hf : Fr F W W') (hn : ∀ k, k < w.heap.size + 2 → ¬ F k) : PutW w W' x :=
  ⟨h.fr.trans' hf (fun j hj e => hn j (by omega) e), Nat.le_trans h.sz hf.size, hf.cell h.z0 (hn _ (by simp)), hf.cell h.z1 (hn _ (by simp)), hf.cell h.z2 (hn _ (by simp)), hf.cell h.z3 (hn _ (by simp)), hf.cell h.z4 (hn _ (by simp)), hf.cell h.z5 (hn _ (by simp)),
    fun j hj => ⟨(h.r j hj).1.elim fun y hy => ⟨y, hf.cell hy (hn _ (by simp))⟩, (h.r j hj).1.elim fun y hy => (hf.frozen hy (hn _ (by simp))).trans (h.r j hj).2⟩⟩
theorem PutW.start (w : World) (x : RT) : PutW w ((w.alloc (.cells #[.int .i64 x.kind, .int .i64 x.elem, .int .i64 x.len, .string x.name, .slice x.fa x.fn x.fc, .bool x.opn] 46)).alloc (.cells #[.int .i64 0, .slice none 0 0, .int .i64 0] 31)) x := by
  obtain ⟨w1, h1⟩ : ∃ w1, w1 = w.alloc (.cells #[.int .i64 x.kind, .int .i64 x.elem, .int .i64 x.len, .string x.name, .slice x.fa x.fn x.fc, .bool x.opn] 46) := ⟨_, rfl⟩
  have f1 : Fr (fun _ => False) w w1 := by rw [h1]; exact fr_al (Fr.refl _ _) _
  have s1 : w1.heap.size = w.heap.size + 1 := by rw [h1]; simp
  have f2 := fr_al (Fr.refl (fun _ => False) w1) (.cells #[.int .i64 0, .slice none 0 0, .int .i64 0] 31)
  have k : ∀ j y, (#[.int .i64 x.kind, .int .i64 x.elem, .int .i64 x.len, .string x.name, .slice x.fa x.fn x.fc, .bool x.opn] : Array Value)[j]? = some y → (w1.alloc (.cells #[.int .i64 0, .slice none 0 0, .int .i64 0] 31)).cell? ⟨w.heap.size, j, none⟩ = some y := fun j y hy => f2.cell (by rw [h1]; exact fcell w _ _ j _ hy) id
  rw [← h1]
  refine ⟨f1.trans f2, by simp; omega, k 0 _ rfl, k 1 _ rfl, k 2 _ rfl, k 3 _ rfl, k 4 _ rfl, k 5 _ rfl, fun j hj => ?_⟩
  rw [← s1]
  exact ⟨⟨_, fcell w1 _ _ j _ (Array.getElem?_eq_getElem (by simpa using hj))⟩, World.frozen?_alloc_new _ _ _ _⟩
end Go.Proofs.Ytbhhmmfopammgaa
