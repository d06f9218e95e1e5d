/-
  The document's own tables of types (layer 8): one type more, and a struct that gets its fields: sizes and alignments then.
-/
import Derived.Test.YtlhkhgkgjdfcgaaQKindCb
import Derived.Outline
namespace Go.Proofs.Ytlhkhgkgjdfcgaa
open Go.RowKit
set_option linter.unusedVariables false
set_option linter.unusedSimpArgs false
theorem fold_congr {α β : Type} {f g : β → α → β} {l : List α} (h : ∀ b, ∀ x ∈ l, f b x = g b x) : ∀ b, l.foldl f b = l.foldl g b := by
  induction l with
  | nil => intro b; rfl
  | cons x t ih =>
    intro b
    rw [List.foldl_cons, List.foldl_cons, h b x (by simp)]
    exact ih (fun b y hy => h b y (by simp [hy])) _
theorem alF_congr {al al' : Int → Int} {fs : List Fld} (h : ∀ f ∈ fs, al' f.type = al f.type) (k : Nat) : alF al' fs k = alF al fs k := by
  unfold alF
  exact fold_congr (fun b x hx => by rw [h x (List.mem_of_mem_take hx)]) _
theorem endF_congr {sz al sz' al' : Int → Int} {fs : List Fld} (h : ∀ f ∈ fs, al' f.type = al f.type) (h2 : ∀ f ∈ fs, sz' f.type = sz f.type) (k : Nat) : endF sz' al' fs k = endF sz al fs k := by
  unfold endF
  exact fold_congr (fun b x hx => by rw [h x (List.mem_of_mem_take hx), h2 x (List.mem_of_mem_take hx)]) _
theorem ownF_get (sz al : Int → Int) (fs : List Fld) (n k : Nat) (hk : k < n) : (ownF sz al fs n).getD k fld0 = ⟨(fs.getD k fld0).name, (fs.getD k fld0).type, upI (endF sz al fs k) (al (fs.getD k fld0).type)⟩ := by
  unfold ownF
  rw [List.getD_eq_getElem?_getD, List.getElem?_eq_getElem (by simpa using hk)]
  simp
theorem ownF_mem {sz al : Int → Int} {fs : List Fld} {f : Fld} (h : f ∈ ownF sz al fs fs.length) : ∃ x ∈ fs, x.type = f.type ∧ x.name = f.name := by
  unfold ownF at h
  obtain ⟨i, hi, rfl⟩ := List.mem_map.1 h
  exact ⟨_, getD_mem (List.mem_range.1 hi), rfl, rfl⟩
theorem alF_own (al al2 : Int → Int) (sz : Int → Int) (fs : List Fld) : ∀ k, k ≤ fs.length → alF al (ownF sz al2 fs fs.length) k = alF al fs k := by
  intro k
  induction k with
  | zero => intro _; rfl
  | succ k ih =>
    intro hk
    rw [alF_succ al _ k _ (by rw [ownF_len]; omega) rfl, alF_succ al fs k _ (by omega) rfl, ih (by omega), ownF_get _ _ _ _ _ (by omega)]
theorem endF_own (sz al sz2 al2 : Int → Int) (fs : List Fld) : ∀ k, k ≤ fs.length → endF sz al (ownF sz2 al2 fs fs.length) k = endF sz al fs k := by
  intro k
  induction k with
  | zero => intro _; rfl
  | succ k ih =>
    intro hk
    rw [endF_succ sz al _ k _ (by rw [ownF_len]; omega) rfl, endF_succ sz al fs k _ (by omega) rfl, ih (by omega), ownF_get _ _ _ _ _ (by omega)]
theorem alF_le (al : Int → Int) (h : ∀ n, al n ≤ 4) (fs : List Fld) : ∀ k, k ≤ fs.length → alF al fs k ≤ 4 := by
  intro k
  induction k with
  | zero => intro _; show (1 : Int) ≤ 4; decide
  | succ k ih =>
    intro hk
    rw [alF_succ al fs k _ (by omega) rfl]
    have := ih (by omega)
    have := h (fs.getD k fld0).type
    unfold layA
    split <;> omega
theorem rAt_add {rs : List RT} {t : RT} {n : Int} (h : rin rs n = true) : rAt (rs ++ [t]) n = rAt rs n := by
  unfold rin at h
  have h1 := of_decide_eq_true h
  unfold rAt
  rw [List.getD_eq_getElem?_getD, List.getElem?_append_left (by omega), ← List.getD_eq_getElem?_getD]
theorem rAt_new (rs : List RT) (t : RT) : rAt (rs ++ [t]) (rs.length : Int) = t := by
  unfold rAt
  rw [List.getD_eq_getElem?_getD]
  simp
theorem rin_add {rs : List RT} {t : RT} {n : Int} : rin (rs ++ [t]) n = true ↔ rin rs n = true ∨ n = rs.length := by
  unfold rin
  rw [decide_eq_true_iff, decide_eq_true_iff]
  simp
  omega
/-- One type more. -/
theorem Doc.add {rs : List RT} {F : Nat → List Fld} {sz al : Int → Int} {rk : Int → Nat} (D : Doc rs F sz al rk) (hdep : ∀ n, rin rs n = true → (rAt rs n).opn = false → (rAt rs n).kind = 4 → 1 ≤ al (rAt rs n).elem) (t : RT) (s a : Int) (hs : 0 ≤ s ∧ s ≤ 1000000000) (ha : 0 ≤ a ∧ a ≤ 4)
    (h3 : t.kind = 3 ∧ s = 4 ∧ a = 4 ∧ t.opn = false ∨ t.kind = 4 ∧ s = t.len * sz t.elem ∧ a = al t.elem ∧ 1 ≤ a ∧ t.opn = false ∨ t.opn = true ∧ s = 0 ∧ a = 0) :
    Doc (rs ++ [t]) F (fun n => if n = rs.length then s else sz n) (fun n => if n = rs.length then a else al n) (fun n => if n = rs.length then rk t.elem + 1 else rk n) := by
  have hN : rin rs (rs.length : Int) = false := by unfold rin; exact decide_eq_false (by omega)
  have h0 := D.no _ hN
  have hne : ∀ m : Int, 1 ≤ al m → m ≠ rs.length := fun m hm e => by rw [e, h0.2] at hm; omega
  have key : ∀ n, rin (rs ++ [t]) n = true → n ≠ rs.length → rin rs n = true ∧ rAt (rs ++ [t]) n = rAt rs n := fun n hn hne => by
    rcases rin_add.1 hn with h | h
    · exact ⟨h, rAt_add h⟩
    · exact absurd h hne
  refine ⟨fun n hn => ?_, fun n hn hz => ?_, fun n hn ho hk => ?_, fun n hn ho hk => ?_, fun n hn ho hk => ?_, fun n hn ho k0 k2 k4 k5 => ?_, fun n => ?_⟩
  · have e : n ≠ rs.length := fun e => by rw [rin_add.2 (.inr e)] at hn; cases hn
    have e2 : rin rs n = false := by
      cases hh : rin rs n with
      | false => rfl
      | true => rw [rin_add.2 (.inl hh)] at hn; cases hn
    try dsimp only
    rw [if_neg e, if_neg e]
    exact D.no n e2
  · try dsimp only
    by_cases e : n = rs.length
    · rw [if_pos e, if_pos e]
      rw [e, rAt_new] at hz
      rcases h3 with ⟨q, _, _, q2⟩ | ⟨q, _, _, _, q2⟩ | ⟨_, q1, q2⟩
      · rcases hz with hz | hz
        · omega
        · rw [q2] at hz; cases hz
      · rcases hz with hz | hz
        · omega
        · rw [q2] at hz; cases hz
      · exact ⟨q1, q2⟩
    · rw [if_neg e, if_neg e]
      obtain ⟨k1, k2⟩ := key n hn e
      rw [k2] at hz
      exact D.zero n k1 hz
  · try dsimp only
    by_cases e : n = rs.length
    · rw [e, rAt_new] at ho hk
      rcases h3 with ⟨q, _⟩ | ⟨q, _⟩ | ⟨q, _⟩
      · omega
      · omega
      · rw [q] at ho; cases ho
    · rw [if_neg e, if_neg e]
      obtain ⟨k1, k2⟩ := key n hn e
      rw [k2] at ho hk
      exact D.one n k1 ho hk
  · try dsimp only
    by_cases e : n = rs.length
    · rw [e, rAt_new] at ho hk ⊢
      rcases h3 with ⟨q, _⟩ | ⟨q, q1, q2, q3, _⟩ | ⟨q, _⟩
      · omega
      · have hel := hne t.elem (by omega)
        rw [if_pos rfl, if_neg hel, if_pos rfl, if_neg hel, if_neg hel, if_pos rfl]
        exact ⟨q1, q2, Nat.lt_succ_self _⟩
      · rw [q] at ho; cases ho
    · obtain ⟨k1, k2⟩ := key n hn e
      rw [k2] at ho hk ⊢
      have hel := hne _ (hdep n k1 ho hk)
      rw [if_neg e, if_neg hel, if_neg e, if_neg hel, if_neg hel, if_neg e]
      exact D.arr n k1 ho hk
  · try dsimp only
    by_cases e : n = rs.length
    · rw [e, rAt_new] at ho hk
      rcases h3 with ⟨q, _⟩ | ⟨q, _⟩ | ⟨q, _⟩
      · omega
      · omega
      · rw [q] at ho; cases ho
    · obtain ⟨k1, k2⟩ := key n hn e
      rw [k2] at ho hk
      obtain ⟨d1, d2, d3⟩ := D.str n k1 ho hk
      have c1 : ∀ f ∈ F n.toNat, (fun n => if n = (rs.length : Int) then a else al n) f.type = al f.type := fun f hf => by
        dsimp only; rw [if_neg (hne _ (d3 f hf).2)]
      have c2 : ∀ f ∈ F n.toNat, (fun n => if n = (rs.length : Int) then s else sz n) f.type = sz f.type := fun f hf => by
        dsimp only; rw [if_neg (hne _ (d3 f hf).2)]
      rw [if_neg e, if_neg e, if_neg e, alF_congr c1, endF_congr c1 c2]
      refine ⟨d1, d2, fun f hf => ?_⟩
      have hf2 := d3 f hf
      rw [if_neg (hne _ hf2.2), if_neg (hne _ hf2.2)]
      exact hf2
  · try dsimp only
    by_cases e : n = rs.length
    · rw [e, rAt_new] at ho k0 k2 k4 k5
      rw [if_pos e, if_pos e]
      rcases h3 with ⟨q, q1, q2, _⟩ | ⟨q, _⟩ | ⟨q, _⟩
      · exact ⟨q1, q2⟩
      · exact absurd q k4
      · rw [q] at ho; cases ho
    · obtain ⟨j1, j2⟩ := key n hn e
      rw [j2] at ho k0 k2 k4 k5
      rw [if_neg e, if_neg e]
      exact D.els n j1 ho k0 k2 k4 k5
  · try dsimp only
    by_cases e : n = rs.length
    · rw [if_pos e, if_pos e]; omega
    · rw [if_neg e, if_neg e]; exact D.bnd n
def rkS (rk : Int → Nat) (fs : List Fld) : Nat := fs.foldl (fun m f => m + rk f.type) 0
theorem fold_ge (rk : Int → Nat) (fs : List Fld) : ∀ m, m ≤ fs.foldl (fun m f => m + rk f.type) m := by
  induction fs with
  | nil => intro m; exact Nat.le_refl _
  | cons x t ih => intro m; rw [List.foldl_cons]; exact Nat.le_trans (Nat.le_add_right _ _) (ih _)
theorem rkS_ge (rk : Int → Nat) {fs : List Fld} {f : Fld} (h : f ∈ fs) : ∀ m, rk f.type ≤ fs.foldl (fun m f => m + rk f.type) m := by
  induction fs with
  | nil => cases h
  | cons x t ih =>
    intro m
    rw [List.foldl_cons]
    rcases List.mem_cons.1 h with e | e
    · subst e; exact Nat.le_trans (Nat.le_add_left _ _) (fold_ge rk t _)
    · exact ih e _
theorem rAt_set {rs : List RT} {K : Nat} {t : RT} {n : Int} (hn : 0 ≤ n) (h : n ≠ K) : rAt (rs.set K t) n = rAt rs n := by
  unfold rAt
  rw [List.getD_eq_getElem?_getD, List.getElem?_set_ne (by omega), ← List.getD_eq_getElem?_getD]
theorem rAt_set_self {rs : List RT} {K : Nat} {t : RT} (h : K < rs.length) : rAt (rs.set K t) (K : Int) = t := by
  unfold rAt
  rw [List.getD_eq_getElem?_getD, Int.toNat_natCast, List.getElem?_set_self h]; rfl
theorem rin_set {rs : List RT} {K : Nat} {t : RT} {n : Int} : rin (rs.set K t) n = rin rs n := by unfold rin; rw [List.length_set]
/-- A struct gets its fields. -/
theorem Doc.set {rs : List RT} {F : Nat → List Fld} {sz al : Int → Int} {rk : Int → Nat} (D : Doc rs F sz al rk) (hdep : ∀ n, rin rs n = true → (rAt rs n).opn = false → (rAt rs n).kind = 4 → 1 ≤ al (rAt rs n).elem) (K : Nat) (hK : K < rs.length) (h0 : al K = 0) (fs : List Fld) (hfs : ∀ f ∈ fs, 1 ≤ al f.type) (hend : endF sz al fs fs.length ≤ 900000000) (nm : ByteArray) (fa : Option Addr) (n0 c0 : Nat) :
    Doc (rs.set K (laidR nm fa n0 c0)) (fun i => if i = K then ownF sz al fs fs.length else F i) (fun n => if n = K then upI (endF sz al fs fs.length) (alF al fs fs.length) else sz n) (fun n => if n = K then alF al fs fs.length else al n) (fun n => if n = K then rkS rk fs + 1 else rk n) := by
  have hne : ∀ m : Int, 1 ≤ al m → m ≠ K := fun m hm e => by rw [e, h0] at hm; omega
  have hin : ∀ n, rin rs n = true → 0 ≤ n := fun n h => (of_decide_eq_true h).1
  have hKin : rin rs K = true := decide_eq_true (by omega)
  refine ⟨fun n hn => ?_, fun n hn hz => ?_, fun n hn ho hk => ?_, fun n hn ho hk => ?_, fun n hn ho hk => ?_, fun n hn ho k0 k2 k4 k5 => ?_, fun n => ?_⟩
  · rw [rin_set] at hn
    have e : n ≠ K := fun e => by rw [e, hKin] at hn; cases hn
    try dsimp only
    rw [if_neg e, if_neg e]
    exact D.no n hn
  · rw [rin_set] at hn
    try dsimp only
    by_cases e : n = K
    · rw [e, rAt_set_self hK] at hz
      rcases hz with hz | hz <;> cases hz
    · rw [rAt_set (hin n hn) e] at hz
      rw [if_neg e, if_neg e]
      exact D.zero n hn hz
  · rw [rin_set] at hn
    try dsimp only
    by_cases e : n = K
    · rw [e, rAt_set_self hK] at hk; cases hk
    · rw [rAt_set (hin n hn) e] at ho hk
      rw [if_neg e, if_neg e]
      exact D.one n hn ho hk
  · rw [rin_set] at hn
    try dsimp only
    by_cases e : n = K
    · rw [e, rAt_set_self hK] at hk; cases hk
    · rw [rAt_set (hin n hn) e] at ho hk ⊢
      have hel := hne _ (hdep n hn ho hk)
      rw [if_neg e, if_neg hel, if_neg e, if_neg hel, if_neg hel, if_neg e]
      exact D.arr n hn ho hk
  · rw [rin_set] at hn
    try dsimp only
    by_cases e : n = K
    · rw [if_pos e, if_pos e, if_pos e, if_pos (by omega), ownF_len]
      have c1 : ∀ f ∈ ownF sz al fs fs.length, (fun n => if n = (K : Int) then alF al fs fs.length else al n) f.type = al f.type := fun f hf => by
        obtain ⟨x, hx, e1, _⟩ := ownF_mem hf
        dsimp only; rw [if_neg (hne _ (by rw [← e1]; exact hfs x hx))]
      have c2 : ∀ f ∈ ownF sz al fs fs.length, (fun n => if n = (K : Int) then upI (endF sz al fs fs.length) (alF al fs fs.length) else sz n) f.type = sz f.type := fun f hf => by
        obtain ⟨x, hx, e1, _⟩ := ownF_mem hf
        dsimp only; rw [if_neg (hne _ (by rw [← e1]; exact hfs x hx))]
      have c3 := alF_congr (al := al) (al' := fun n => if n = (K : Int) then alF al fs fs.length else al n) c1 fs.length
      have c4 := endF_congr (al := al) (al' := fun n => if n = (K : Int) then alF al fs fs.length else al n) (sz := sz) (sz' := fun n => if n = (K : Int) then upI (endF sz al fs fs.length) (alF al fs fs.length) else sz n) c1 c2 fs.length
      rw [c3, c4, alF_own _ _ _ _ _ (Nat.le_refl _), endF_own _ _ _ _ _ _ (Nat.le_refl _)]
      refine ⟨rfl, rfl, fun f hf => ?_⟩
      obtain ⟨x, hx, e1, _⟩ := ownF_mem hf
      have h1 := hfs x hx
      rw [← e1, if_neg (hne _ h1), if_neg (hne _ h1)]
      exact ⟨Nat.lt_succ_of_le (rkS_ge rk hx 0), h1⟩
    · rw [rAt_set (hin n hn) e] at ho hk
      have e2 : ¬ n.toNat = K := fun q => e (by have := hin n hn; omega)
      obtain ⟨d1, d2, d3⟩ := D.str n hn ho hk
      have c1 : ∀ f ∈ F n.toNat, (fun n => if n = (K : Int) then alF al fs fs.length else al n) f.type = al f.type := fun f hf => by
        dsimp only; rw [if_neg (hne _ (d3 f hf).2)]
      have c2 : ∀ f ∈ F n.toNat, (fun n => if n = (K : Int) then upI (endF sz al fs fs.length) (alF al fs fs.length) else sz n) f.type = sz f.type := fun f hf => by
        dsimp only; rw [if_neg (hne _ (d3 f hf).2)]
      rw [if_neg e, if_neg e, if_neg e, if_neg e2, alF_congr c1, endF_congr c1 c2]
      refine ⟨d1, d2, fun f hf => ?_⟩
      have hf2 := d3 f hf
      rw [if_neg (hne _ hf2.2), if_neg (hne _ hf2.2)]
      exact hf2
  · rw [rin_set] at hn
    try dsimp only
    by_cases e : n = K
    · rw [e, rAt_set_self hK] at k5; exact absurd rfl k5
    · rw [rAt_set (hin n hn) e] at ho k0 k2 k4 k5
      rw [if_neg e, if_neg e]
      exact D.els n hn ho k0 k2 k4 k5
  · try dsimp only
    by_cases e : n = K
    · rw [if_pos e, if_pos e]
      have a1 := alF_ge al fs fs.length (Nat.le_refl _)
      have a2 := alF_le al (fun n => (D.bnd n).2.2.2) fs fs.length (Nat.le_refl _)
      have e0 := endF_ge (fun n => (D.bnd n).1) hfs fs.length (Nat.le_refl _)
      have u1 := upI_le (n := endF sz al fs fs.length) a1
      have u2 := upI_ge (n := endF sz al fs fs.length) a1
      omega
    · rw [if_neg e, if_neg e]; exact D.bnd n
end Go.Proofs.Ytlhkhgkgjdfcgaa
