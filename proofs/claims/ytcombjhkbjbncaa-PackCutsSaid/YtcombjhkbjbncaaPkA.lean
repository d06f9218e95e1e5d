/-
  Pack (layer 32): images and their bytes, plainly; what is read back.
-/
import Derived.Test.YtcombjhkbjbncaaDf
import Derived.Test.YtcombjhkbjbncaaProg
namespace Go.Proofs.Ytcombjhkbjbncaa
open Go.RowKit
set_option linter.unusedVariables false
set_option linter.unusedSimpArgs false
/-- How many zeros stand ahead. -/
def nz : List Int → Nat
  | [] => 0
  | x :: r => if x = 0 then nz r + 1 else 0
def bgn (d : List Int) : Prop := 3 ≤ nz d ∨ 1 ≤ nz d ∧ nz d = d.length
instance (d : List Int) : Decidable (bgn d) := by unfold bgn; infer_instance
def zl (d : List Int) : Nat := min (nz d) 128
def othF : Nat → List Int → Nat
  | 0, _ => 0
  | _ + 1, [] => 0
  | m + 1, x :: r => if bgn (x :: r) then 0 else othF m r + 1
def oth (d : List Int) : Nat := othF 127 d
def runsF : Nat → List Int → List Int
  | 0, _ => []
  | f + 1, d => if d = [] then [] else if bgn d then (127 + (zl d : Int)) :: runsF f (d.drop (zl d)) else ((oth d : Int)) :: (d.take (oth d) ++ runsF f (d.drop (oth d)))
def runs (d : List Int) : List Int := runsF d.length d
theorem nz_le : ∀ d, nz d ≤ d.length
  | [] => Nat.le_refl _
  | x :: r => by
    have := nz_le r
    unfold nz
    split <;> simp <;> omega
theorem nz_take : ∀ (d : List Int) (k : Nat), k ≤ nz d → d.take k = List.replicate k 0
  | d, 0, _ => rfl
  | [], k + 1, h => by simp [nz] at h
  | x :: r, k + 1, h => by
    unfold nz at h
    split at h
    · rename_i hx
      rw [List.take_succ_cons, nz_take r k (by omega), hx]
      rfl
    · omega
theorem nz_get {d : List Int} {k : Nat} (h : k < nz d) : d.getD k 0 = 0 := by
  have h1 := nz_take d (nz d) (Nat.le_refl _)
  have h2 := nz_le d
  have : (d.take (nz d))[k]? = (List.replicate (nz d) (0 : Int))[k]? := by rw [h1]
  rw [List.getElem?_take, if_pos h, List.getElem?_replicate, if_pos h] at this
  rw [List.getD_eq_getElem?_getD, this]
  rfl
/-- The zeros ahead end where one is not, or where all end. -/
theorem nz_end : ∀ (d : List Int) (k : Nat), (∀ i, i < k → d.getD i 0 = 0) → k ≤ d.length → (k = d.length ∨ d.getD k 0 ≠ 0) → nz d = k
  | [], k, _, hk, _ => by simp at hk; subst hk; rfl
  | x :: r, 0, _, _, h => by
    unfold nz
    rw [if_neg]
    rcases h with h | h
    · simp at h
    · simpa using h
  | x :: r, k + 1, hz, hk, h => by
    have hx : x = 0 := by simpa using hz 0 (by omega)
    unfold nz
    rw [if_pos hx, nz_end r k (fun i hi => by simpa using hz (i + 1) (by omega)) (by simpa using hk) (by simpa using h)]
theorem zl_pos {d : List Int} (h : bgn d) : 1 ≤ zl d := by unfold zl; rcases h with h | h <;> omega
theorem zl_le (d : List Int) : zl d ≤ d.length := by have := nz_le d; unfold zl; omega
theorem zl_128 (d : List Int) : zl d ≤ 128 := by unfold zl; omega
theorem othF_le : ∀ (m : Nat) (d : List Int), othF m d ≤ m ∧ othF m d ≤ d.length
  | 0, d => ⟨Nat.le_refl _, Nat.zero_le _⟩
  | m + 1, [] => ⟨Nat.zero_le _, Nat.le_refl _⟩
  | m + 1, x :: r => by
    have := othF_le m r
    unfold othF
    split
    · simp
    · simp; omega
theorem oth_le (d : List Int) : oth d ≤ 127 ∧ oth d ≤ d.length := othF_le 127 d
theorem oth_pos {d : List Int} (hd : d ≠ []) (h : ¬bgn d) : 1 ≤ oth d := by
  cases d with
  | nil => exact absurd rfl hd
  | cons x r =>
    unfold oth othF
    rw [if_neg h]
    omega
/-- The others end where zeros begin. -/
theorem othF_end : ∀ (m : Nat) (d : List Int) (k : Nat), k ≤ m → k ≤ d.length → (∀ i, i < k → ¬bgn (d.drop i)) → (k = m ∨ k = d.length ∨ bgn (d.drop k)) → othF m d = k
  | 0, d, k, hm, _, _, _ => by
    have : k = 0 := by omega
    subst this
    rfl
  | m + 1, [], k, _, hk, _, _ => by simp at hk; subst hk; rfl
  | m + 1, x :: r, 0, _, _, _, h => by
    have hb : bgn (x :: r) := by
      rcases h with h | h | h
      · omega
      · simp at h
      · simpa using h
    unfold othF
    rw [if_pos hb]
  | m + 1, x :: r, k + 1, hm, hk, hz, h => by
    have hb : ¬bgn (x :: r) := by simpa using hz 0 (by omega)
    unfold othF
    rw [if_neg hb, othF_end m r k (by omega) (by simpa using hk) (fun i hi => by simpa using hz (i + 1) (by omega)) (by
      rcases h with h | h | h
      · exact .inl (by omega)
      · exact .inr (.inl (by simpa using h))
      · exact .inr (.inr (by simpa using h)))]
theorem runsF_more : ∀ (f g : Nat) (d : List Int), d.length ≤ f → d.length ≤ g → runsF f d = runsF g d
  | 0, 0, _, _, _ => rfl
  | 0, g + 1, d, h, _ => by
    have : d = [] := List.eq_nil_of_length_eq_zero (by omega)
    subst this
    rfl
  | f + 1, 0, d, _, h => by
    have : d = [] := List.eq_nil_of_length_eq_zero (by omega)
    subst this
    rfl
  | f + 1, g + 1, d, h1, h2 => by
    unfold runsF
    by_cases hd : d = []
    · rw [if_pos hd, if_pos hd]
    rw [if_neg hd, if_neg hd]
    by_cases hb : bgn d
    · have := zl_pos hb
      rw [if_pos hb, if_pos hb, runsF_more f g _ (by simp; omega) (by simp; omega)]
    · have := oth_pos hd hb
      rw [if_neg hb, if_neg hb, runsF_more f g _ (by simp; omega) (by simp; omega)]
theorem runs_nil : runs [] = [] := rfl
theorem runs_z {d : List Int} (h : bgn d) : runs d = (127 + (zl d : Int)) :: runs (d.drop (zl d)) := by
  have h1 := zl_pos h
  have h2 := zl_le d
  have hd : d ≠ [] := fun e => by subst e; simp at h2; omega
  obtain ⟨m, hm⟩ : ∃ m, d.length = m + 1 := ⟨d.length - 1, by omega⟩
  unfold runs
  rw [hm]
  conv => lhs; unfold runsF
  rw [if_neg hd, if_pos h, runsF_more m (d.drop (zl d)).length _ (by simp; omega) (Nat.le_refl _)]
theorem runs_o {d : List Int} (hd : d ≠ []) (h : ¬bgn d) : runs d = (oth d : Int) :: (d.take (oth d) ++ runs (d.drop (oth d))) := by
  have h1 := oth_pos hd h
  have h2 := (oth_le d).2
  obtain ⟨m, hm⟩ : ∃ m, d.length = m + 1 := ⟨d.length - 1, by omega⟩
  unfold runs
  rw [hm]
  conv => lhs; unfold runsF
  rw [if_neg hd, if_neg h, runsF_more m (d.drop (oth d)).length _ (by simp; omega) (Nat.le_refl _)]
/-- What may be said of any data by its runs. -/
theorem runs_ind {M : List Int → Prop} (h0 : M []) (hz : ∀ d, bgn d → M (d.drop (zl d)) → M d) (ho : ∀ d, d ≠ [] → ¬bgn d → M (d.drop (oth d)) → M d) : ∀ d, M d := by
  have key : ∀ (n : Nat) (d : List Int), d.length ≤ n → M d := fun n => by
    induction n with
    | zero => intro d hd; obtain rfl := List.eq_nil_of_length_eq_zero (show d.length = 0 by omega); exact h0
    | succ n ih =>
      intro d hd
      by_cases hn : d = []
      · rw [hn]; exact h0
      by_cases hb : bgn d
      · have := zl_pos hb
        exact hz d hb (ih _ (by simp; omega))
      · have := oth_pos hn hb
        exact ho d hn hb (ih _ (by simp; omega))
  exact fun d => key d.length d (Nat.le_refl _)
def Byt (l : List Int) : Prop := ∀ x ∈ l, 0 ≤ x ∧ x ≤ 255
theorem Byt.app {l l' : List Int} (h : Byt l) (h' : Byt l') : Byt (l ++ l') := fun x hx => (List.mem_append.1 hx).elim (h x) (h' x)
theorem Byt.cons {x : Int} {l : List Int} (hx : 0 ≤ x ∧ x ≤ 255) (h : Byt l) : Byt (x :: l) := fun y hy => by
  rcases List.mem_cons.1 hy with rfl | q
  · exact hx
  · exact h y q
theorem Byt.nil : Byt [] := fun x hx => by cases hx
theorem Byt.take {l : List Int} (h : Byt l) (k : Nat) : Byt (l.take k) := fun x hx => h x (List.mem_of_mem_take hx)
theorem Byt.drop {l : List Int} (h : Byt l) (k : Nat) : Byt (l.drop k) := fun x hx => h x (List.mem_of_mem_drop hx)
theorem runs_byt : ∀ d : List Int, Byt d → Byt (runs d) := by
  refine runs_ind ?_ ?_ ?_
  · intro _; exact Byt.nil
  · intro d hb ih h
    have := zl_128 d
    rw [runs_z hb]
    exact Byt.cons (by omega) (ih (h.drop _))
  · intro d hd hb ih h
    have := (oth_le d).1
    rw [runs_o hd hb]
    exact Byt.cons (by omega) ((h.take _).app (ih (h.drop _)))
/-- A number's four bytes. -/
def numB (n : Int) : List Int := [n % 256, n / 256 % 256, n / 65536 % 256, n / 16777216 % 256]
theorem numB_len (n : Int) : (numB n).length = 4 := rfl
theorem numB_byt (n : Int) : Byt (numB n) := Byt.cons (by omega) (Byt.cons (by omega) (Byt.cons (by omega) (Byt.cons (by omega) Byt.nil)))
structure Img where
  code : List Int
  data : List Int
  lim : Int
  notes : Int
def img0 : Img := ⟨[], [], 0, 0⟩
def Wrd (l : List Int) : Prop := ∀ x ∈ l, 0 ≤ x ∧ x ≤ 4294967295
structure Img.ok (g : Img) : Prop where
  c0 : 1 ≤ g.code.length
  c1 : g.code.length ≤ 32768
  d0 : 4 ≤ g.data.length
  d1 : g.data.length ≤ 65536
  l0 : 268435456 ≤ g.lim
  l1 : g.lim ≤ 268435456 + g.data.length
  n0 : 0 ≤ g.notes
  n1 : g.notes ≤ 64
structure Img.wf (g : Img) : Prop where
  code : Wrd g.code
  data : Byt g.data
def hd4 : List Int := [82, 83, 72, 1]
def encH (g : Img) : List Int := hd4 ++ numB g.code.length ++ numB g.data.length ++ numB (g.lim - 268435456) ++ numB g.notes
def enc (g : Img) : List Int := encH g ++ g.code.flatMap numB ++ runs g.data
theorem flat_byt (l : List Int) : Byt (l.flatMap numB) := fun x hx => by
  obtain ⟨y, _, hy⟩ := List.mem_flatMap.1 hx
  exact numB_byt y x hy
theorem enc_byt {g : Img} (h : Byt g.data) : Byt (enc g) := by
  unfold enc encH
  refine (((((?_ : Byt hd4).app (numB_byt _)).app (numB_byt _)).app (numB_byt _)).app (numB_byt _)).app (flat_byt _) |>.app (runs_byt _ h)
  unfold hd4
  exact Byt.cons (by omega) (Byt.cons (by omega) (Byt.cons (by omega) (Byt.cons (by omega) Byt.nil)))
/-! ### What is read -/
def rdNum : List Int → Option (Int × List Int)
  | a :: b :: c :: d :: r => some (a + 256 * b + 65536 * c + 16777216 * d, r)
  | _ => none
def rdMax (m : Int) (l : List Int) : Option (Int × List Int) := match rdNum l with
  | some (n, r) => if n ≤ m then some (n, r) else none
  | none => none
def rdWords : Nat → List Int → Option (List Int × List Int)
  | 0, l => some ([], l)
  | k + 1, l => match rdNum l with
    | some (n, r) => match rdWords k r with
      | some (ns, r') => some (n :: ns, r')
      | none => none
    | none => none
def rdRun : List Int → Option (List Int × List Int)
  | [] => none
  | n :: r => if n ≤ 0 then none else if 127 < n then some (List.replicate (n - 127).toNat 0, r) else if n ≤ r.length then some (r.take n.toNat, r.drop n.toNat) else none
def rdRuns : Nat → Nat → List Int → List Int → Option (List Int × List Int)
  | 0, _, acc, l => some (acc, l)
  | f + 1, size, acc, l => if size ≤ acc.length then some (acc, l) else match rdRun l with
    | some (x, r) => rdRuns f size (acc ++ x) r
    | none => none
theorem rdNum_numB {n : Int} (h0 : 0 ≤ n) (h1 : n ≤ 4294967295) (r : List Int) : rdNum (numB n ++ r) = some (n, r) := by
  show some (n % 256 + 256 * (n / 256 % 256) + 65536 * (n / 65536 % 256) + 16777216 * (n / 16777216 % 256), r) = _
  rw [show n % 256 + 256 * (n / 256 % 256) + 65536 * (n / 65536 % 256) + 16777216 * (n / 16777216 % 256) = n by omega]
theorem rdMax_numB {n m : Int} (h0 : 0 ≤ n) (h1 : n ≤ m) (hm : m ≤ 4294967295) (r : List Int) : rdMax m (numB n ++ r) = some (n, r) := by
  unfold rdMax
  rw [rdNum_numB h0 (by omega)]
  exact if_pos h1
theorem rdWords_flat : ∀ (ws : List Int), Wrd ws → ∀ r, rdWords ws.length (ws.flatMap numB ++ r) = some (ws, r)
  | [], _, r => rfl
  | w :: ws, h, r => by
    have hw := h w (by simp)
    rw [List.flatMap_cons, List.append_assoc, List.length_cons]
    unfold rdWords
    rw [rdNum_numB hw.1 hw.2]
    simp only []
    rw [rdWords_flat ws (fun x hx => h x (by simp [hx]))]
theorem rdRun_z {d : List Int} (h : bgn d) (r : List Int) : rdRun (runs d ++ r) = some (d.take (zl d), runs (d.drop (zl d)) ++ r) := by
  have h1 := zl_pos h
  rw [runs_z h, List.cons_append]
  unfold rdRun
  simp only []
  rw [if_neg (by omega), if_pos (by omega), show (127 + (zl d : Int) - 127).toNat = zl d by omega, nz_take d (zl d) (by unfold zl; omega)]
theorem rdRun_o {d : List Int} (hd : d ≠ []) (h : ¬bgn d) (r : List Int) : rdRun (runs d ++ r) = some (d.take (oth d), runs (d.drop (oth d)) ++ r) := by
  have h1 := oth_pos hd h
  have h2 := oth_le d
  have hl : (d.take (oth d)).length = oth d := by simp; omega
  rw [runs_o hd h, List.cons_append]
  unfold rdRun
  simp only []
  rw [if_neg (by omega), if_neg (by omega), if_pos (by simp only [List.length_append, hl]; omega), Int.toNat_natCast, List.append_assoc]
  rw [List.take_append_of_le_length (by omega), List.take_of_length_le (by omega), List.drop_append_of_le_length (by omega), List.drop_of_length_le (by omega), List.nil_append]
theorem rdRuns_runs : ∀ d : List Int, ∀ (f : Nat) (acc r : List Int), d.length ≤ f → rdRuns f (acc.length + d.length) acc (runs d ++ r) = some (acc ++ d, r) := by
  have step : ∀ (d : List Int) (k : Nat) (f : Nat) (acc r : List Int), 1 ≤ k → k ≤ d.length → d.length ≤ f → rdRun (runs d ++ r) = some (d.take k, runs (d.drop k) ++ r) →
      (∀ (f : Nat) (acc r : List Int), (d.drop k).length ≤ f → rdRuns f (acc.length + (d.drop k).length) acc (runs (d.drop k) ++ r) = some (acc ++ d.drop k, r)) →
      rdRuns f (acc.length + d.length) acc (runs d ++ r) = some (acc ++ d, r) := fun d k f acc r h1 h2 hf hr ih => by
    obtain ⟨f, rfl⟩ : ∃ g, f = g + 1 := ⟨f - 1, by omega⟩
    unfold rdRuns
    rw [if_neg (by omega), hr]
    simp only []
    have hl : (acc ++ d.take k).length + (d.drop k).length = acc.length + d.length := by simp; omega
    have := ih f (acc ++ d.take k) r (by simp; omega)
    rw [hl] at this
    rw [this, List.append_assoc, List.take_append_drop]
  refine runs_ind ?_ ?_ ?_
  · intro f acc r _
    cases f with
    | zero => simp [rdRuns, runs_nil]
    | succ f => simp [rdRuns, runs_nil]
  · intro d hb ih f acc r hf
    exact step d (zl d) f acc r (zl_pos hb) (zl_le d) hf (rdRun_z hb r) ih
  · intro d hd hb ih f acc r hf
    exact step d (oth d) f acc r (oth_pos hd hb) (oth_le d).2 hf (rdRun_o hd hb r) ih
/-- What the program reads. -/
def parse (l : List Int) : Option Img :=
  if 4 ≤ l.length ∧ l.take 4 = hd4 then
    match rdMax 32768 (l.drop 4) with
    | none => none
    | some (words, r1) => match rdMax 65536 r1 with
      | none => none
      | some (size, r2) => match rdMax 65536 r2 with
        | none => none
        | some (lim, r3) => match rdMax 64 r3 with
          | none => none
          | some (notes, r4) => match rdWords words.toNat r4 with
            | none => none
            | some (code, r5) => match rdRuns size.toNat size.toNat [] r5 with
              | none => none
              | some (data, _) => some ⟨code, data, 268435456 + lim, notes⟩
  else none
theorem parse_enc {g : Img} (h : g.ok) (hw : g.wf) (r : List Int) : parse (enc g ++ r) = some g := by
  obtain ⟨c0, c1, d0, d1, l0, l1, n0, n1⟩ := h
  have e : enc g ++ r = hd4 ++ (numB g.code.length ++ (numB g.data.length ++ (numB (g.lim - 268435456) ++ (numB g.notes ++ (g.code.flatMap numB ++ (runs g.data ++ r)))))) := by
    unfold enc encH
    simp only [List.append_assoc]
  rw [e]
  unfold parse
  rw [if_pos ⟨by simp [hd4], by simp [hd4]⟩, show (hd4 ++ _ : List Int).drop 4 = _ from List.drop_left' rfl]
  rw [rdMax_numB (by omega) (by omega) (by omega)]
  simp only []
  rw [rdMax_numB (by omega) (by omega) (by omega)]
  simp only []
  rw [rdMax_numB (by omega) (by omega) (by omega)]
  simp only []
  rw [rdMax_numB (by omega) (by omega) (by omega)]
  simp only [Int.toNat_natCast]
  rw [rdWords_flat _ hw.code]
  simp only []
  have := rdRuns_runs g.data g.data.length [] r (Nat.le_refl _)
  rw [List.length_nil, Nat.zero_add, List.nil_append] at this
  rw [this]
  simp only []
  rw [show 268435456 + (g.lim - 268435456) = g.lim by omega]
/-! ### What the document reads -/
def rrF : Nat → Nat → List Int → List Int → List Int
  | 0, _, acc, _ => acc
  | f + 1, size, acc, l => if size ≤ acc.length then acc else match l with
    | [] => acc
    | n :: r => if 127 < n then rrF f size (acc ++ List.replicate (n - 127).toNat 0) r else rrF f size (acc ++ r.take n.toNat) (r.drop n.toNat)
theorem rrF_runs : ∀ d : List Int, ∀ (f : Nat) (acc : List Int), (runs d).length ≤ f → rrF f (acc.length + d.length) acc (runs d) = acc ++ d := by
  refine runs_ind ?_ ?_ ?_
  · intro f acc _
    cases f with
    | zero => simp [rrF]
    | succ f => simp [rrF]
  · intro d hb ih f acc hf
    have h1 := zl_pos hb
    have h2 := zl_le d
    rw [runs_z hb, List.length_cons] at hf
    obtain ⟨f, rfl⟩ : ∃ g, f = g + 1 := ⟨f - 1, by omega⟩
    unfold rrF
    rw [if_neg (by omega), runs_z hb]
    simp only []
    rw [if_pos (by omega), show (127 + (zl d : Int) - 127).toNat = zl d by omega, ← nz_take d (zl d) (by unfold zl; omega)]
    have hl : (acc ++ d.take (zl d)).length + (d.drop (zl d)).length = acc.length + d.length := by simp; omega
    have := ih f (acc ++ d.take (zl d)) (by omega)
    rw [hl] at this
    rw [this, List.append_assoc, List.take_append_drop]
  · intro d hd hb ih f acc hf
    have h1 := oth_pos hd hb
    have h2 := oth_le d
    have hlt : (d.take (oth d)).length = oth d := by simp; omega
    rw [runs_o hd hb, List.length_cons, List.length_append] at hf
    obtain ⟨f, rfl⟩ : ∃ g, f = g + 1 := ⟨f - 1, by omega⟩
    unfold rrF
    rw [if_neg (by omega), runs_o hd hb]
    simp only []
    rw [if_neg (by omega), Int.toNat_natCast, List.take_append_of_le_length (by omega), List.take_of_length_le (l := d.take (oth d)) (by omega), List.drop_append_of_le_length (by omega), List.drop_of_length_le (l := d.take (oth d)) (by omega), List.nil_append]
    have hl : (acc ++ d.take (oth d)).length + (d.drop (oth d)).length = acc.length + d.length := by simp; omega
    have := ih f (acc ++ d.take (oth d)) (by omega)
    rw [hl] at this
    rw [this, List.append_assoc, List.take_append_drop]
def atL (l : List Int) (n : Nat) : Int := l.getD n 0 + 256 * l.getD (n + 1) 0 + 65536 * l.getD (n + 2) 0 + 16777216 * l.getD (n + 3) 0
def early (l : List Int) : Prop := l.length < 20 ∨ 32768 < atL l 4 ∨ 65536 < atL l 8 ∨ (l.length : Int) < 20 + 4 * atL l 4 ∨ 65536 < atL l 12 ∨ 64 < atL l 16
instance (l : List Int) : Decidable (early l) := by unfold early; infer_instance
def wordsL (l : List Int) (n : Nat) : List Int := (List.range n).map fun i => atL l (20 + 4 * i)
def imgR (l : List Int) : Img := ⟨wordsL l (atL l 4).toNat, rrF l.length (atL l 8).toNat [] (l.drop (20 + 4 * (atL l 4).toNat)), 268435456 + atL l 12, atL l 16⟩
theorem atL_numB {n : Int} (h0 : 0 ≤ n) (h1 : n ≤ 4294967295) (p r : List Int) (k : Nat) (hk : p.length = k) : atL (p ++ (numB n ++ r)) k = n := by
  subst hk
  have g : ∀ j, j < 4 → (p ++ (numB n ++ r)).getD (p.length + j) 0 = (numB n).getD j 0 := fun j hj => by
    rw [List.getD_eq_getElem?_getD, List.getD_eq_getElem?_getD, List.getElem?_append_right (by omega), Nat.add_sub_cancel_left, List.getElem?_append_left (by rw [numB_len]; exact hj)]
  unfold atL
  have g0 := g 0 (by omega)
  rw [Nat.add_zero] at g0
  rw [g0, g 1 (by omega), g 2 (by omega), g 3 (by omega)]
  show n % 256 + 256 * (n / 256 % 256) + 65536 * (n / 65536 % 256) + 16777216 * (n / 16777216 % 256) = n
  omega
theorem encH_len (g : Img) : (encH g).length = 20 := rfl
theorem flat_len4 (l : List Int) : (l.flatMap numB).length = 4 * l.length := by
  induction l with
  | nil => rfl
  | cons x l ih => rw [List.flatMap_cons, List.length_append, ih, numB_len, List.length_cons]; omega
theorem enc_len (g : Img) : (enc g).length = 20 + 4 * g.code.length + (runs g.data).length := by
  unfold enc
  rw [List.length_append, List.length_append, encH_len, flat_len4]
theorem enc_at4 {g : Img} (h : g.ok) : atL (enc g) 4 = g.code.length := by
  have := h.c1
  have e : enc g = hd4 ++ (numB g.code.length ++ (numB g.data.length ++ (numB (g.lim - 268435456) ++ (numB g.notes ++ (g.code.flatMap numB ++ runs g.data))))) := by unfold enc encH; simp only [List.append_assoc]
  rw [e]
  exact atL_numB (by omega) (by omega) _ _ _ rfl
theorem enc_at8 {g : Img} (h : g.ok) : atL (enc g) 8 = g.data.length := by
  have := h.d1
  have e : enc g = (hd4 ++ numB g.code.length) ++ (numB g.data.length ++ (numB (g.lim - 268435456) ++ (numB g.notes ++ (g.code.flatMap numB ++ runs g.data)))) := by unfold enc encH; simp only [List.append_assoc]
  rw [e]
  exact atL_numB (by omega) (by omega) _ _ _ rfl
theorem enc_at12 {g : Img} (h : g.ok) : atL (enc g) 12 = g.lim - 268435456 := by
  have := h.l0
  have := h.l1
  have := h.d1
  have e : enc g = (hd4 ++ numB g.code.length ++ numB g.data.length) ++ (numB (g.lim - 268435456) ++ (numB g.notes ++ (g.code.flatMap numB ++ runs g.data))) := by unfold enc encH; simp only [List.append_assoc]
  rw [e]
  exact atL_numB (by omega) (by omega) _ _ _ rfl
theorem enc_at16 {g : Img} (h : g.ok) : atL (enc g) 16 = g.notes := by
  have := h.n0
  have := h.n1
  have e : enc g = (hd4 ++ numB g.code.length ++ numB g.data.length ++ numB (g.lim - 268435456)) ++ (numB g.notes ++ (g.code.flatMap numB ++ runs g.data)) := by unfold enc encH; simp only [List.append_assoc]
  rw [e]
  exact atL_numB (by omega) (by omega) _ _ _ rfl
theorem atL_words : ∀ (ws : List Int), Wrd ws → ∀ (p r : List Int) (i : Nat), i < ws.length → atL (p ++ (ws.flatMap numB ++ r)) (p.length + 4 * i) = ws.getD i 0
  | [], _, p, r, i, h => by simp at h
  | w :: ws, hw, p, r, 0, h => by
    have hw0 := hw w (by simp)
    rw [List.flatMap_cons, List.append_assoc]
    exact atL_numB hw0.1 hw0.2 _ _ _ (by omega)
  | w :: ws, hw, p, r, i + 1, h => by
    have := atL_words ws (fun x hx => hw x (by simp [hx])) (p ++ numB w) r i (by simpa using h)
    rw [List.length_append, numB_len, List.append_assoc] at this
    rw [List.flatMap_cons, List.append_assoc, show p.length + 4 * (i + 1) = p.length + 4 + 4 * i by omega, this]
    simp
theorem list_ext_getD {l l' : List Int} (hl : l.length = l'.length) (h : ∀ i, i < l.length → l.getD i 0 = l'.getD i 0) : l = l' := by
  apply List.ext_getElem hl
  intro i h1 h2
  have := h i h1
  rwa [List.getD_eq_getElem?_getD, List.getD_eq_getElem?_getD, List.getElem?_eq_getElem h1, List.getElem?_eq_getElem h2] at this
theorem wordsL_len (l : List Int) (n : Nat) : (wordsL l n).length = n := by simp [wordsL]
theorem wordsL_get {l : List Int} {n i : Nat} (h : i < n) : (wordsL l n).getD i 0 = atL l (20 + 4 * i) := by simp [wordsL, List.getD_eq_getElem?_getD, List.getElem?_range h]
theorem wordsL_succ (l : List Int) (n : Nat) : wordsL l (n + 1) = wordsL l n ++ [atL l (20 + 4 * n)] := by simp [wordsL, List.range_succ]
theorem imgR_enc {g : Img} (h : g.ok) (hw : g.wf) : imgR (enc g) = g := by
  have e0 : atL (enc g) 4 = g.code.length := enc_at4 h
  have hc : wordsL (enc g) g.code.length = g.code := by
    refine list_ext_getD (wordsL_len _ _) fun i hi => ?_
    rw [wordsL_len] at hi
    rw [wordsL_get hi]
    have := atL_words g.code hw.code (encH g) (runs g.data) i hi
    rw [encH_len, ← List.append_assoc] at this
    exact this
  have hr : (enc g).drop (20 + 4 * g.code.length) = runs g.data := by
    unfold enc
    exact List.drop_left' (by rw [List.length_append, encH_len, flat_len4])
  unfold imgR
  rw [e0, enc_at8 h, enc_at12 h, enc_at16 h]
  simp only [Int.toNat_natCast]
  rw [hc, hr]
  have := rrF_runs g.data (enc g).length [] (by rw [enc_len]; omega)
  rw [List.length_nil, Nat.zero_add, List.nil_append] at this
  rw [this, show 268435456 + (g.lim - 268435456) = g.lim by omega]
theorem not_early {g : Img} (h : g.ok) : ¬early (enc g) := by
  have h1 := enc_len g
  unfold early
  rw [enc_at4 h, enc_at8 h, enc_at12 h, enc_at16 h]
  obtain ⟨c0, c1, d0, d1, l0, l1, n0, n1⟩ := h
  omega
/-! ### Which bytes are an image's -/
theorem okP (g : Img) : g.ok ↔ (1 ≤ g.code.length ∧ g.code.length ≤ 32768 ∧ 4 ≤ g.data.length ∧ g.data.length ≤ 65536 ∧ 268435456 ≤ g.lim ∧ g.lim ≤ 268435456 + g.data.length ∧ 0 ≤ g.notes ∧ g.notes ≤ 64) :=
  ⟨fun ⟨a, b, c, d, e, f, x, y⟩ => ⟨a, b, c, d, e, f, x, y⟩, fun ⟨a, b, c, d, e, f, x, y⟩ => ⟨a, b, c, d, e, f, x, y⟩⟩
instance (g : Img) : Decidable g.ok := decidable_of_iff' _ (okP g)
def Is (l : List Int) (g : Img) : Prop := g.ok ∧ g.wf ∧ enc g = l
theorem Is.one {l : List Int} {g g' : Img} (h : Is l g) (h' : Is l g') : g = g' := by
  have h1 := parse_enc h.1 h.2.1 []
  have h2 := parse_enc h'.1 h'.2.1 []
  rw [h.2.2] at h1
  rw [h'.2.2] at h2
  exact Option.some.inj (h1.symm.trans h2)
/-- No image's bytes stand ahead of another's. -/
theorem Is.ahead {l r : List Int} {g g' : Img} (h : Is l g) (h' : Is (l ++ r) g') : r = [] := by
  have h1 := parse_enc h.1 h.2.1 r
  have h2 := parse_enc h'.1 h'.2.1 []
  rw [h.2.2] at h1
  rw [h'.2.2, List.append_nil] at h2
  obtain rfl := Option.some.inj (h1.symm.trans h2)
  have := h.2.2.symm.trans h'.2.2
  simpa using this
theorem Byt.get {l : List Int} (h : Byt l) (i : Nat) : 0 ≤ l.getD i 0 ∧ l.getD i 0 ≤ 255 := by
  rcases Nat.lt_or_ge i l.length with hi | hi
  · rw [List.getD_eq_getElem?_getD, List.getElem?_eq_getElem hi]
    exact h _ (List.getElem_mem hi)
  · rw [List.getD_eq_getElem?_getD, List.getElem?_eq_none hi]
    exact ⟨by decide, by decide⟩
theorem atL_in {l : List Int} (h : Byt l) (n : Nat) : 0 ≤ atL l n ∧ atL l n ≤ 4294967295 := by
  have h0 := h.get n
  have h1 := h.get (n + 1)
  have h2 := h.get (n + 2)
  have h3 := h.get (n + 3)
  unfold atL
  omega
theorem rrF_byt : ∀ (f size : Nat) (acc l : List Int), Byt acc → Byt l → Byt (rrF f size acc l)
  | 0, _, acc, _, h, _ => h
  | f + 1, size, acc, l, h, hl => by
    unfold rrF
    split
    · exact h
    · cases l with
      | nil => exact h
      | cons n r =>
        have hr : Byt r := fun x hx => hl x (by simp [hx])
        simp only []
        split
        · exact rrF_byt f size _ _ (h.app (fun x hx => by rw [(List.mem_replicate.1 hx).2]; exact ⟨by decide, by decide⟩)) hr
        · exact rrF_byt f size _ _ (h.app (hr.take _)) (hr.drop _)
theorem imgR_wf {l : List Int} (h : Byt l) : (imgR l).wf := by
  refine ⟨fun x hx => ?_, rrF_byt _ _ _ _ Byt.nil (h.drop _)⟩
  unfold imgR wordsL at hx
  simp only [List.mem_map, List.mem_range] at hx
  obtain ⟨i, _, rfl⟩ := hx
  exact atL_in h _
/-- The document's way to tell. -/
theorem isR_iff {l : List Int} (h : Byt l) (g : Img) : Is l g ↔ ¬early l ∧ g = imgR l ∧ (imgR l).ok ∧ enc (imgR l) = l := by
  constructor
  · rintro ⟨h1, h2, rfl⟩
    rw [imgR_enc h1 h2]
    exact ⟨not_early h1, rfl, h1, rfl⟩
  · rintro ⟨_, rfl, h1, h2⟩
    exact ⟨h1, imgR_wf h, h2⟩
end Go.Proofs.Ytcombjhkbjbncaa
