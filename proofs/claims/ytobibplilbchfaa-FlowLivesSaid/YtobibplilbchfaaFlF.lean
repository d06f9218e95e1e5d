/-
  Flow (layer 16): a traversal plainly, step by step.
-/
import Derived.Test.YtobibplilbchfaaFlE
import Derived.Deep.OwnRows
namespace Go.Proofs.Ytobibplilbchfaa
open Go.RowKit
set_option linter.unusedVariables false
set_option linter.unusedSimpArgs false
set_option linter.unnecessarySimpa false
/-- How a traversal stands. -/
structure Cf where
  st : List Int
  path : List (Int × List Int)
  left : List Int
  back : List (Int × Int)
/-- Its last block. -/
def Cf.top (c : Cf) : Int × List Int := c.path.getD (c.path.length - 1) (0, [])
def stepC (bs : List Bk) (c : Cf) : Cf :=
  if c.path.length = 0 then c else
  match c.top.2 with
  | [] => ⟨c.st.set c.top.1.toNat 2, c.path.take (c.path.length - 1), c.left ++ [c.top.1], c.back⟩
  | y :: r =>
    if c.st.getD y.toNat 0 = 0 then ⟨c.st.set y.toNat 1, c.path.set (c.path.length - 1) (c.top.1, r) ++ [(y, outsF bs y.toNat)], c.left, c.back⟩
    else if c.st.getD y.toNat 0 = 1 then ⟨c.st, c.path.set (c.path.length - 1) (c.top.1, r), c.left, c.back ++ [(c.top.1, y)]⟩
    else ⟨c.st, c.path.set (c.path.length - 1) (c.top.1, r), c.left, c.back⟩
def iterC (bs : List Bk) : Nat → Cf → Cf
  | 0, c => c
  | n + 1, c => stepC bs (iterC bs n c)
def initC (bs : List Bk) : Cf := if bs.length = 0 then ⟨[], [], [], []⟩ else ⟨(List.replicate bs.length 0).set 0 1, [(0, outsF bs 0)], [], []⟩
theorem step_none {bs : List Bk} {c : Cf} (h : c.path.length = 0) : stepC bs c = c := by unfold stepC; rw [if_pos h]
theorem step_leave {bs : List Bk} {c : Cf} (h : 0 < c.path.length) (h2 : c.top.2 = []) : stepC bs c = ⟨c.st.set c.top.1.toNat 2, c.path.take (c.path.length - 1), c.left ++ [c.top.1], c.back⟩ := by
  unfold stepC; rw [if_neg (by omega), h2]
theorem step_enter {bs : List Bk} {c : Cf} {y : Int} {r : List Int} (h : 0 < c.path.length) (h2 : c.top.2 = y :: r) (h3 : c.st.getD y.toNat 0 = 0) : stepC bs c = ⟨c.st.set y.toNat 1, c.path.set (c.path.length - 1) (c.top.1, r) ++ [(y, outsF bs y.toNat)], c.left, c.back⟩ := by
  unfold stepC; rw [if_neg (by omega), h2]; simp only [h3, if_true]
theorem step_back {bs : List Bk} {c : Cf} {y : Int} {r : List Int} (h : 0 < c.path.length) (h2 : c.top.2 = y :: r) (h3 : c.st.getD y.toNat 0 = 1) : stepC bs c = ⟨c.st, c.path.set (c.path.length - 1) (c.top.1, r), c.left, c.back ++ [(c.top.1, y)]⟩ := by
  unfold stepC; rw [if_neg (by omega), h2]; simp only [h3]; rfl
theorem step_skip {bs : List Bk} {c : Cf} {y : Int} {r : List Int} (h : 0 < c.path.length) (h2 : c.top.2 = y :: r) (h3 : c.st.getD y.toNat 0 ≠ 0) (h4 : c.st.getD y.toNat 0 ≠ 1) : stepC bs c = ⟨c.st, c.path.set (c.path.length - 1) (c.top.1, r), c.left, c.back⟩ := by
  unfold stepC; rw [if_neg (by omega), h2]; simp only [h3, h4, if_false]
def InB (bs : List Bk) (x : Int) : Prop := 0 ≤ x ∧ x < bs.length
structure OkC (bs : List Bk) (j : Nat) (c : Cf) : Prop where
  st : c.st.length = bs.length
  rg : ∀ x ∈ c.path, InB bs x.1 ∧ ∀ y ∈ x.2, InB bs y
  lp : c.path.length ≤ j + 1
  ll : c.left.length ≤ j
  lb : c.back.length ≤ j
  lg : ∀ x ∈ c.left, InB bs x
theorem top_mem {c : Cf} (h : 0 < c.path.length) : c.top ∈ c.path := by
  unfold Cf.top
  rw [List.getD_eq_getElem?_getD, List.getElem?_eq_getElem (by omega)]
  exact List.getElem_mem _
theorem ok_init (bs : List Bk) : OkC bs 0 (initC bs) := by
  unfold initC
  split
  · rename_i h
    exact ⟨by simp [h], by simp, by simp, by simp, by simp, by simp⟩
  · rename_i h
    refine ⟨by simp, fun x hx => ?_, by simp, by simp, by simp, by simp⟩
    obtain rfl : x = (0, outsF bs 0) := by simpa using hx
    exact ⟨⟨Int.le_refl _, by omega⟩, fun y hy => outsF_in hy⟩
theorem ok_step {bs : List Bk} {j : Nat} {c : Cf} (h : OkC bs j c) : OkC bs (j + 1) (stepC bs c) := by
  by_cases h0 : c.path.length = 0
  · rw [step_none h0]
    exact ⟨h.st, h.rg, by have := h.lp; omega, by have := h.ll; omega, by have := h.lb; omega, h.lg⟩
  · have hp : 0 < c.path.length := by omega
    obtain ⟨t1, t2⟩ := h.rg _ (top_mem hp)
    have hset : ∀ r : List Int, (∀ y ∈ r, InB bs y) → ∀ x ∈ c.path.set (c.path.length - 1) (c.top.1, r), InB bs x.1 ∧ ∀ y ∈ x.2, InB bs y := fun r hr x hx => by
      rcases List.mem_or_eq_of_mem_set hx with q | q
      · exact h.rg x q
      · subst q; exact ⟨t1, hr⟩
    have l1 := h.lp
    have l2 := h.ll
    have l3 := h.lb
    cases ht : c.top.2 with
    | nil =>
      rw [step_leave hp ht]
      exact ⟨by simp [h.st], fun x hx => h.rg x (List.mem_of_mem_take hx), by simp; omega, by simp; omega, by simp; omega, fun x hx => (List.mem_append.1 hx).elim (h.lg x) (fun q => by obtain rfl : x = c.top.1 := (by simpa using q); exact t1)⟩
    | cons y r =>
      rw [ht] at t2
      have hr : ∀ y ∈ r, InB bs y := fun z hz => t2 z (by simp [hz])
      by_cases h3 : c.st.getD y.toNat 0 = 0
      · rw [step_enter hp ht h3]
        refine ⟨by simp [h.st], fun x hx => ?_, by simp; omega, by simp; omega, by simp; omega, h.lg⟩
        rcases List.mem_append.1 hx with q | q
        · exact hset r hr x q
        · obtain rfl : x = (y, outsF bs y.toNat) := by simpa using q
          exact ⟨t2 y (by simp), fun z hz => outsF_in hz⟩
      · by_cases h4 : c.st.getD y.toNat 0 = 1
        · rw [step_back hp ht h4]
          exact ⟨h.st, hset r hr, by simp; omega, by simp; omega, by simp; omega, h.lg⟩
        · rw [step_skip hp ht h3 h4]
          exact ⟨h.st, hset r hr, by simp; omega, by simp; omega, by simp; omega, h.lg⟩
theorem ok_iter (bs : List Bk) : ∀ j, OkC bs j (iterC bs j (initC bs))
  | 0 => ok_init bs
  | j + 1 => ok_step (ok_iter bs j)
theorem iter_end {bs : List Bk} {c : Cf} {j : Nat} (h : (iterC bs j c).path.length = 0) : ∀ d, iterC bs (j + d) c = iterC bs j c
  | 0 => rfl
  | d + 1 => by
    show stepC bs (iterC bs (j + d) c) = _
    rw [iter_end h d, step_none h]
theorem mk_i (n : Nat) (hn : n ≤ 1000000) (w : World) : (Instr.makeSlice 34 (.int .i64 (n : Int)) (.int .i64 (n : Int))).run Try.prog w = .ok (.slice (some ⟨w.heap.size, 0, none⟩) n n) (w.alloc (.cells (madeCells #[.int .i64 0] n) 3)) :=
  run_make_row' 34 3 (.int .i64 0) 8 Try.underlying34 infoI rfl .i64 .i64 n (by omega) (by omega) w
theorem rep_flat : ∀ n : Nat, (List.replicate n (0 : Int)).flatMap iC = List.replicate n (.int .i64 0)
  | 0 => rfl
  | n + 1 => by rw [List.replicate_succ, List.flatMap_cons, rep_flat n, List.replicate_succ]; rfl
theorem ints_made {B g n : Nat} {w : World} (h : Bx w g (madeCells #[.int .i64 0] n) 3) (hb : B ≤ g) (hn : n ≤ 1000000) : Ints B w (.slice (some ⟨g, 0, none⟩) n n) (List.replicate n 0) := by
  refine ⟨by rw [flat_len iC_len], .inr ⟨g, n, _, by simp, hb, h, by simp, by unfold maxLen; omega, by rw [size_madeCells]; omega, ?_⟩⟩
  rw [toList_madeCells_one, rep_flat]
  simp
theorem vs_cells {B : Nat} {w : World} {gp m cap : Nat} {ms : List Vs} (h : Row B 81 2 vC w (.slice (some ⟨gp, 0, none⟩) m cap) ms) {k : Nat} (hk : k < ms.length) : w.cell? ⟨gp, 0 + k * 2, none⟩ = some (.int .i64 (ms.getD k vs0).n) ∧ w.cell? ⟨gp, 0 + k * 2 + 1, none⟩ = some (.slice (ms.getD k vs0).a (ms.getD k vs0).k (ms.getD k vs0).c) := by
  have e : ms[k]? = some (ms.getD k vs0) := by simp [List.getD_eq_getElem?_getD, hk]
  exact ⟨Row.cell vC_len h e (j := 0) rfl (by omega), Row.cell vC_len h e (j := 1) rfl (by omega)⟩
theorem getD_set {ms : List Vs} {k : Nat} {x : Vs} (h : k < ms.length) : (ms.set k x).getD k vs0 = x := by simp [List.getD_eq_getElem?_getD, h]
theorem vs_store {B : Nat} {w : World} {gp m cap : Nat} {ms : List Vs} (h : Row B 81 2 vC w (.slice (some ⟨gp, 0, none⟩) m cap) ms) {k : Nat} (hk : k < ms.length) (a : Option Addr) (n c : Nat) : ∃ w', (Instr.storeAt 34 (.pointer (some ⟨gp, 0 + k * 2 + 1, none⟩)) (.slice a n c)).run Try.prog w = .ok () w' ∧ (Row B 81 2 vC w' (.slice (some ⟨gp, 0, none⟩) m cap) (ms.set k ⟨(ms.getD k vs0).n, a, n, c⟩) ∧ Fr (fun q => q = gp) w w') := by
  obtain ⟨_, c1⟩ := vs_cells h hk
  have e1 := Row.free (q := 0 + k * 2 + 1) h
  generalize hq : 0 + k * 2 + 1 = q at *
  refine ⟨w.setCell ⟨gp, q, none⟩ (.slice a n c), by simp [go_sem, c1, e1], Row.upd vC_len h hk (j := 1) (by decide) (by omega) _ _ (fun x hx => ?_), Fr.setCell _ _ _ rfl⟩
  have : ms.getD k vs0 = x := by rw [List.getD_eq_getElem?_getD, hx]; rfl
  rw [this]
  rfl
end Go.Proofs.Ytobibplilbchfaa
