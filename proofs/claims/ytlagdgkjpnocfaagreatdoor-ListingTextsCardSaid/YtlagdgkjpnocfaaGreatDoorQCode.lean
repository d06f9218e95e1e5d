/-
  The contract of codeOf: the row of an instruction's number, the zero row where there is none. The contracts of the functions of the formats: which registers, which bits, which pieces, and a few of the document's own answers to them. The contracts of the pieces of an immediate: where they stand, how they are scattered over a word, how they are gathered from it.
-/
import Derived.Test.YtlagdgkjpnocfaaGreatDoorQMath
import Derived.Deep.RegionHeld3
namespace Go.Proofs.YtlagdgkjpnocfaaGreatDoor
open Go.RowKit
set_option linter.unusedVariables false
set_option linter.unusedSimpArgs false

theorem grown_cell {w w' : World} (h : Grown w w') {b o : Nat} {v : Value} (hc : w.cell? ⟨b, o, none⟩ = some v) : w'.cell? ⟨b, o, none⟩ = some v := by
  have hb : b < w.heap.size := block_lt_of_cell hc
  have h3 := h.1.2.2 b hb
  simp only [World.cell?] at hc ⊢
  cases h1 : w.heap[b]? with
  | none => simp [h1] at hc
  | some o1 =>
    rw [h1] at h3 hc
    cases o1 with
    | cells c t fr =>
      cases h2 : w'.heap[b]? with
      | none => rw [h2] at h3; simp at h3
      | some o2 =>
        rw [h2] at h3
        cases o2 with
        | cells c' t' fr' =>
          simp at h3 hc ⊢
          rw [h3.2.2.2]; exact hc
        | _ => simp at h3
    | _ => simp at hc
theorem grown_size {w w' : World} (h : Grown w w') {n : Nat} (hn : n < w.heap.size) : n < w'.heap.size := Nat.lt_of_lt_of_le hn h.2.2

def nm (k : Nat) : ByteArray := nmL.getD k ⟨#[]⟩
def fm (k : Nat) : Int := fmL.getD k 0
def oc (k : Nat) : Int := ocL.getD k 0
def f3 (k : Nat) : Int := f3L.getD k 0
def f7 (k : Nat) : Int := f7L.getD k 0
def ix (op : Int) : Nat := if 0 ≤ op ∧ op < 46 then op.toNat else 0
def rowCells (k : Nat) : Array Value := #[.string (nm k), .int .u8 (fm k), .int .u8 (oc k), .int .u8 (f3 k), .int .u8 (f7 k)]

set_option maxRecDepth 1000000 in
theorem codes_at (k : Nat) (h : k < 46) : codesArr[k * 5]? = some (.string (nm k)) ∧ codesArr[k * 5 + 1]? = some (.int .u8 (fm k)) ∧ codesArr[k * 5 + 2]? = some (.int .u8 (oc k)) ∧ codesArr[k * 5 + 3]? = some (.int .u8 (f3 k)) ∧ codesArr[k * 5 + 4]? = some (.int .u8 (f7 k)) := by
  have : ∀ k : Fin 46, codesArr[k.val * 5]? = some (.string (nm k)) ∧ codesArr[k.val * 5 + 1]? = some (.int .u8 (fm k)) ∧ codesArr[k.val * 5 + 2]? = some (.int .u8 (oc k)) ∧ codesArr[k.val * 5 + 3]? = some (.int .u8 (f3 k)) ∧ codesArr[k.val * 5 + 4]? = some (.int .u8 (f7 k)) := by
    intro ⟨k, hk⟩
    match k, hk with
    | 0, _ | 1, _ | 2, _ | 3, _ | 4, _ | 5, _ | 6, _ | 7, _ | 8, _ | 9, _ | 10, _ | 11, _ | 12, _ | 13, _ | 14, _ | 15, _ | 16, _ | 17, _ | 18, _ | 19, _ | 20, _ | 21, _ | 22, _ | 23, _ | 24, _ | 25, _ | 26, _ | 27, _ | 28, _ | 29, _ | 30, _ | 31, _ | 32, _ | 33, _ | 34, _ | 35, _ | 36, _ | 37, _ | 38, _ | 39, _ | 40, _ | 41, _ | 42, _ | 43, _ | 44, _ | 45, _ => exact ⟨rfl, rfl, rfl, rfl, rfl⟩
    | n + 46, hn => exact absurd hn (by omega)
  exact this ⟨k, h⟩

set_option maxRecDepth 1000000 in
theorem codes_cell (w : World) (k : Nat) (h : k < 46) : (w.alloc (.cells codesArr 104)).cell? ⟨w.heap.size, k * 5, none⟩ = some (.string (nm k)) ∧ (w.alloc (.cells codesArr 104)).cell? ⟨w.heap.size, k * 5 + 1, none⟩ = some (.int .u8 (fm k)) ∧ (w.alloc (.cells codesArr 104)).cell? ⟨w.heap.size, k * 5 + 2, none⟩ = some (.int .u8 (oc k)) ∧ (w.alloc (.cells codesArr 104)).cell? ⟨w.heap.size, k * 5 + 3, none⟩ = some (.int .u8 (f3 k)) ∧ (w.alloc (.cells codesArr 104)).cell? ⟨w.heap.size, k * 5 + 4, none⟩ = some (.int .u8 (f7 k)) := by
  obtain ⟨a0, a1, a2, a3, a4⟩ := codes_at k h
  refine ⟨?_, ?_, ?_, ?_, ?_⟩
  all_goals (rw [cell_of_row _ _ _ codesArr 104 (0, 0) (heap_alloc_new _ _)]; assumption)
theorem row_cell (w : World) (cs : Array Value) (t : TypeId) (j : Nat) (v : Value) (h : cs[j]? = some v) : (w.alloc (.cells cs t)).cell? ⟨w.heap.size, j, none⟩ = some v := by
  rw [cell_of_row _ _ _ cs t (0, 0) (heap_alloc_new _ _)]; exact h
theorem new_frozen {w w' : World} {cs : Array Value} {t : TypeId} (h : Grown (w.alloc (.cells cs t)) w') (j : Nat) : w'.frozen? ⟨w.heap.size, j, none⟩ = false := by
  rw [h.2.1]; exact World.frozen?_alloc_at _ _ _ _ rfl
def zero58 : Array Value := #[.string ⟨#[]⟩, .int .u8 0, .int .u8 0, .int .u8 0, .int .u8 0]

set_option maxRecDepth 1000000 in
set_option maxHeartbeats 4000000 in
theorem c45_in (k : Nat) (hk : k < 46) (w : World) :
    Calls Tryz.prog 45 #[.int .i64 k] w fun e w' => e = .returned (.agg (rowCells k)) ∧ Grown w w' := by
  go_enter Tryz.func45, Tryz.ntmps45
  go_wp2_with (first
    | (go_at_call 68; (with_reducible refine (c68 _).mono ?_); rintro e w' ⟨rfl, hg⟩
       obtain ⟨m0, m1, m2, m3, m4⟩ := codes_cell w' k hk
       have hs : w.heap.size < w'.heap.size := Nat.lt_of_lt_of_le (by simp) hg.2.2
       have hs' : w.heap.size ≠ w'.heap.size := by omega
       have z0 := grown_cell hg (row_cell w zero58 80 0 _ rfl)
       have z1 := grown_cell hg (row_cell w zero58 80 1 _ rfl)
       have z2 := grown_cell hg (row_cell w zero58 80 2 _ rfl)
       have z3 := grown_cell hg (row_cell w zero58 80 3 _ rfl)
       have z4 := grown_cell hg (row_cell w zero58 80 4 _ rfl)
       have y0 := new_frozen hg 0
       have y1 := new_frozen hg 1
       have y2 := new_frozen hg 2
       have y3 := new_frozen hg 3
       have y4 := new_frozen hg 4
       have HG := Lib.hid hg; clear hg)
    | (refine wpList_store_row rfl 104 _ _ rfl _ codesArr rfl rfl 104 Tryz.zeroCells104 (heap_alloc_new _ _) cells73 (by as_aux_lemma => kernel_rfl) (by as_aux_lemma => kernel_rfl) ?_; rw [World.setRow_alloc_new]))
  refine bodyPost_ret (v := .agg (rowCells k)) (by simp [results, Tryz.results45, go_sem, rowCells, z0, z1, z2, z3, z4, hs]) rfl ⟨rfl, ?_⟩
  exact ((((((grown_trans ((Grown.refl w).alloc _ _) HG.out).setCell (Nat.le_refl _) _).setCell (Nat.le_refl _) _).setCell (Nat.le_refl _) _).setCell (Nat.le_refl _) _).setCell (Nat.le_refl _) _).alloc _ _
set_option maxRecDepth 1000000 in
set_option maxHeartbeats 4000000 in
theorem c45_out (op : Int) (hk : op < 0 ∨ 46 ≤ op) (w : World) :
    Calls Tryz.prog 45 #[.int .i64 op] w fun e w' => e = .returned (.agg (rowCells 0)) ∧ Grown w w' := by
  rcases hk with hk | hk
  all_goals
    go_enter Tryz.func45, Tryz.ntmps45
    go_wp2_with (first
      | (go_at_call 68; (with_reducible refine (c68 _).mono ?_); rintro e w' ⟨rfl, hg⟩
         have hs : w.heap.size < w'.heap.size := Nat.lt_of_lt_of_le (by simp) hg.2.2
         have hs' : w.heap.size ≠ w'.heap.size := by omega
         have z0 := grown_cell hg (row_cell w zero58 80 0 _ rfl)
         have z1 := grown_cell hg (row_cell w zero58 80 1 _ rfl)
         have z2 := grown_cell hg (row_cell w zero58 80 2 _ rfl)
         have z3 := grown_cell hg (row_cell w zero58 80 3 _ rfl)
         have z4 := grown_cell hg (row_cell w zero58 80 4 _ rfl)
         have y0 := new_frozen hg 0
         have y1 := new_frozen hg 1
         have y2 := new_frozen hg 2
         have y3 := new_frozen hg 3
         have y4 := new_frozen hg 4
         have HG := Lib.hid hg; clear hg)
      | (refine wpList_store_row rfl 104 _ _ rfl _ codesArr rfl rfl 104 Tryz.zeroCells104 (heap_alloc_new _ _) cells73 (by as_aux_lemma => kernel_rfl) (by as_aux_lemma => kernel_rfl) ?_; rw [World.setRow_alloc_new]))
    refine bodyPost_ret (v := .agg (rowCells 0)) (by simp [results, Tryz.results45, go_sem, rowCells, z0, z1, z2, z3, z4, hs]; exact ⟨rfl, rfl, rfl, rfl, rfl⟩) rfl ⟨rfl, ?_⟩
    exact ((((((grown_trans ((Grown.refl w).alloc _ _) HG.out).setCell (Nat.le_refl _) _).setCell (Nat.le_refl _) _).setCell (Nat.le_refl _) _).setCell (Nat.le_refl _) _).setCell (Nat.le_refl _) _).alloc _ _
theorem c45 (op : Int) (w : World) :
    Calls Tryz.prog 45 #[.int .i64 op] w fun e w' => e = .returned (.agg #[.string (nm (ix op)), .int .u8 (fm (ix op)), .int .u8 (oc (ix op)), .int .u8 (f3 (ix op)), .int .u8 (f7 (ix op))]) ∧ Grown w w' := by
  unfold ix
  by_cases h : 0 ≤ op ∧ op < 46
  · rw [if_pos h]
    have := c45_in op.toNat (by omega) w
    rw [show ((op.toNat : Nat) : Int) = op by omega] at this
    exact this
  · rw [if_neg h]
    exact c45_out op (by omega) w

theorem field0 (s a b c d : Value) (w : World) : (Instr.field 80 (.agg #[s, a, b, c, d]) 0).run Tryz.prog w = .ok s w := by kernel_rfl
theorem field1 (s a b c d : Value) (w : World) : (Instr.field 80 (.agg #[s, a, b, c, d]) 1).run Tryz.prog w = .ok a w := by kernel_rfl
theorem c37 (op : Int) (w : World) :
    Calls Tryz.prog 37 #[.int .i64 op] w fun e w' => e = .returned (.string (nm (ix op))) ∧ Grown w w' := by
  have hfi := field0
  go_enter Tryz.func37, Tryz.ntmps37
  go_wp2_with (go_at_call 45; (with_reducible refine (c45 _ _).mono ?_); rintro e w' ⟨rfl, hg⟩; have HG := Lib.hid hg; clear hg)
  go_ret
  exact ⟨rfl, HG.out⟩
theorem c26 (op : Int) (w : World) :
    Calls Tryz.prog 26 #[.int .i64 op] w fun e w' => e = .returned (.int .u8 (fm (ix op))) ∧ Grown w w' := by
  have hfi := field1
  go_enter Tryz.func26, Tryz.ntmps26
  go_wp2_with (go_at_call 45; (with_reducible refine (c45 _ _).mono ?_); rintro e w' ⟨rfl, hg⟩; have HG := Lib.hid hg; clear hg)
  go_ret
  exact ⟨rfl, HG.out⟩
/-- The format of an instruction's number. -/
def formF (x : Int) : Int := if x < 1 ∨ 45 < x then 0 else if x ≤ 2 then 85 else if x = 3 then 74 else if 5 ≤ x ∧ x ≤ 10 then 66 else if 16 ≤ x ∧ x ≤ 18 then 83 else if 25 ≤ x ∧ x ≤ 27 then 72 else if 28 ≤ x then 82 else 73
theorem fm_is : ∀ k : Nat, k < 46 → fm k = formF k := by decide
theorem ix_lt (op : Int) : ix op < 46 := by unfold ix; split <;> omega
theorem ix_in {op : Int} (h : 0 ≤ op ∧ op < 46) : (ix op : Int) = op := by unfold ix; rw [if_pos h]; omega
theorem ix_out {op : Int} (h : ¬ (0 ≤ op ∧ op < 46)) : ix op = 0 := by unfold ix; rw [if_neg h]
theorem fm_ix (op : Int) : fm (ix op) = formF op := by
  rw [fm_is _ (ix_lt op)]
  by_cases h : 0 ≤ op ∧ op < 46
  · rw [ix_in h]
  · rw [ix_out h]; unfold formF; rw [if_pos (by omega), if_pos (by omega)]
set_option maxHeartbeats 2000000 in
theorem c18 (op : Int) (w : World) :
    Calls Tryz.prog 18 #[.int .i64 op] w fun e w' => e = .returned (.int .u8 (fm (ix op))) ∧ w = w' := by
  have F := Lib.hid (fm_ix op)
  have hc : op < 1 ∨ 45 < op ∨ (1 ≤ op ∧ op ≤ 2) ∨ (3 ≤ op ∧ op ≤ 3) ∨ (4 ≤ op ∧ op ≤ 4) ∨ (5 ≤ op ∧ op ≤ 10) ∨ (11 ≤ op ∧ op ≤ 15) ∨ (16 ≤ op ∧ op ≤ 18) ∨ (19 ≤ op ∧ op ≤ 24) ∨ (25 ≤ op ∧ op ≤ 27) ∨ (28 ≤ op ∧ op ≤ 45) := by omega
  rcases hc with hc | hc | ⟨hc, hd⟩ | ⟨hc, hd⟩ | ⟨hc, hd⟩ | ⟨hc, hd⟩ | ⟨hc, hd⟩ | ⟨hc, hd⟩ | ⟨hc, hd⟩ | ⟨hc, hd⟩ | ⟨hc, hd⟩
  all_goals
    go_enter Tryz.func18, Tryz.ntmps18
    go_wp2
    all_goals go_ret
    all_goals
      refine ⟨ret_int ?_, rfl⟩
      rw [F.out]; unfold formF
      repeat' split
      all_goals first | rfl | (exfalso; omega)

theorem ret_bool {a b : Bool} (h : a = b) : Ending.returned (.bool a) = .returned (.bool b) := by rw [h]
/-- A format is one of the seven letters, or 0. -/
def isForm (f : Int) : Prop := f = 85 ∨ f = 74 ∨ f = 73 ∨ f = 72 ∨ f = 83 ∨ f = 66 ∨ f = 82 ∨ f = 0
theorem fm_form (op : Int) : isForm (fm (ix op)) := by
  rw [fm_ix]; unfold isForm formF
  repeat' split
  all_goals simp
theorem fm_form' (k : Nat) (h : k < 46) : isForm (fm k) := by
  rw [fm_is k h]; unfold isForm formF
  repeat' split
  all_goals simp
def uRd (f : Int) : Bool := f == 82 || f == 73 || f == 72 || f == 85 || f == 74
def uRs1 (f : Int) : Bool := f == 82 || f == 73 || f == 72 || f == 83 || f == 66
def uRs2 (f : Int) : Bool := f == 82 || f == 83 || f == 66
theorem c41 (f : Int) (hf : isForm f) (w : World) :
    Calls Tryz.prog 41 #[.int .u8 f] w fun e w' => e = .returned (.tuple #[.bool (uRd f), .bool (uRs1 f), .bool (uRs2 f)]) ∧ w = w' := by
  rcases hf with rfl | rfl | rfl | rfl | rfl | rfl | rfl | rfl
  all_goals
    go_enter Tryz.func41, Tryz.ntmps41
    go_wp2
    go_ret3
    exact ⟨rfl, rfl⟩
def maskF (f : Int) : Int := if f = 82 ∨ f = 72 then 4261412864 + 28672 + 127 else if f = 73 ∨ f = 83 ∨ f = 66 then 28672 + 127 else if f = 85 ∨ f = 74 then 127 else 0
theorem c125 (f : Int) (hf : isForm f) (w : World) :
    Calls Tryz.prog 125 #[.int .u8 f] w fun e w' => e = .returned (.int .u32 (maskF f)) ∧ w = w' := by
  rcases hf with rfl | rfl | rfl | rfl | rfl | rfl | rfl | rfl
  all_goals
    go_enter Tryz.func125, Tryz.ntmps125
    go_wp2
    go_ret
    exact ⟨ret_int (by decide), rfl⟩
def immB (f : Int) : Int := if f = 74 then 21 else if f = 66 then 13 else if f = 73 ∨ f = 83 then 12 else 32
theorem c67 (f : Int) (hf : isForm f) (w : World) :
    Calls Tryz.prog 67 #[.int .u8 f] w fun e w' => e = .returned (.int .i64 (immB f)) ∧ w = w' := by
  rcases hf with rfl | rfl | rfl | rfl | rfl | rfl | rfl | rfl
  all_goals
    go_enter Tryz.func67, Tryz.ntmps67
    go_wp2
    go_ret
    exact ⟨ret_int (by simp [immB]), rfl⟩
/-- Whether a register's number may stand in a field that is used or not. -/
def regB (n : Int) (u : Bool) : Bool := if u then decide (0 ≤ n ∧ n < 32) else decide (n = 0)
theorem c42 (n : Int) (u : Bool) (w : World) :
    Calls Tryz.prog 42 #[.int .i64 n, .bool u] w fun e w' => e = .returned (.bool (regB n u)) ∧ w = w' := by
  cases u
  · go_enter Tryz.func42, Tryz.ntmps42
    go_wp2
    go_ret
    exact ⟨by simp [regB]; rfl, rfl⟩
  · by_cases h : 0 ≤ n
    all_goals
      go_enter Tryz.func42, Tryz.ntmps42
      go_wp2
      go_ret
      exact ⟨ret_bool (by simp [regB]; omega), rfl⟩
def regV (x at_ : Int) (u : Bool) : Int := if u then x / 2 ^ at_.toNat % 32 else 0
theorem c98 (x p : Int) (u : Bool) (h0 : 0 ≤ x) (h1 : x ≤ 4294967295) (hp : p = 7 ∨ p = 15 ∨ p = 20) (w : World) :
    Calls Tryz.prog 98 #[.int .u32 x, .int .i64 p, .bool u] w fun e w' => e = .returned (.int .i64 (regV x p u)) ∧ w = w' := by
  rcases hp with rfl | rfl | rfl <;> cases u
  all_goals
    go_enter Tryz.func98, Tryz.ntmps98
    go_wp2
    go_ret
    exact ⟨ret_int (by simp [regV]), rfl⟩
theorem mask_val {b : Int} (h0 : 0 ≤ b) (h1 : b ≤ 31) : ((2 : Int) ^ b.toNat % 4294967296 - 1) % 4294967296 = 2 ^ b.toNat - 1 := by
  have p := one_le_pow2 b.toNat
  have q : (2 : Int) ^ b.toNat ≤ 2147483648 := by
    have := pw_hi (b := b) h0
    unfold pw at this
    rw [show b % 32 = b by omega] at this
    exact this
  omega
theorem c65 (a b c : Int) (hb0 : 0 ≤ b) (hb : b ≤ 31) (w : World) :
    Calls Tryz.prog 65 #[.agg #[.int .i64 a, .int .i64 b, .int .i64 c]] w fun e w' => e = .returned (.int .u32 (2 ^ b.toNat - 1)) ∧ Grown w w' := by
  have H := Lib.hid (mask_val hb0 hb)
  go_enter Tryz.func65, Tryz.ntmps65
  go_wp2
  go_ret
  exact ⟨ret_int H.out, (Grown.refl _).alloc _ _⟩
/-- An or of bits that do not meet is a sum. -/
theorem nat_or_field (x f k c : Nat) (hx : x / 2 ^ k % 2 ^ c = 0) (hf : f < 2 ^ c) : x ||| f * 2 ^ k = x + f * 2 ^ k := by
  have e1 : x = 2 ^ k * (x / 2 ^ k) + x % 2 ^ k := (Nat.div_add_mod x (2 ^ k)).symm
  have e2 : x / 2 ^ k = 2 ^ c * (x / 2 ^ k / 2 ^ c) := by have := Nat.div_add_mod (x / 2 ^ k) (2 ^ c); omega
  have l : x % 2 ^ k < 2 ^ k := Nat.mod_lt _ (Nat.two_pow_pos k)
  generalize x / 2 ^ k / 2 ^ c = h at e2
  generalize x % 2 ^ k = lo at *
  rw [e2] at e1
  have e3 : x ||| f * 2 ^ k = (2 ^ k * (2 ^ c * h + f)) ||| lo := by
    rw [e1, Nat.two_pow_add_eq_or_of_lt l, Nat.or_assoc, Nat.or_comm lo, ← Nat.or_assoc, Nat.two_pow_add_eq_or_of_lt hf]
    congr 1
    rw [Nat.mul_comm (2 ^ k), Nat.mul_comm (2 ^ k), ← Nat.shiftLeft_eq, ← Nat.shiftLeft_eq, ← Nat.shiftLeft_eq, Nat.shiftLeft_or_distrib]
  rw [e3, ← Nat.two_pow_add_eq_or_of_lt l, e1, Nat.mul_add, Nat.mul_comm f]
  omega
theorem or_field {x f : Int} (k c : Nat) (h0 : 0 ≤ x) (h1 : x < 4294967296) (g0 : 0 ≤ f) (hx : x / 2 ^ k % 2 ^ c = 0) (hf : f < 2 ^ c) (hk : k + c ≤ 32) : bits .or .u32 x (f * 2 ^ k) = x + f * 2 ^ k := by
  obtain ⟨X, rfl⟩ : ∃ n : Nat, x = n := ⟨x.toNat, by omega⟩
  obtain ⟨F, rfl⟩ : ∃ n : Nat, f = n := ⟨f.toNat, by omega⟩
  have hf' : F < 2 ^ c := by exact_mod_cast hf
  have hlt : F * 2 ^ k < 4294967296 := by
    have a1 : F * 2 ^ k < 2 ^ c * 2 ^ k := Nat.mul_lt_mul_of_pos_right hf' (Nat.two_pow_pos k)
    rw [← Nat.pow_add] at a1
    have a2 : 2 ^ (c + k) ≤ 2 ^ 32 := Nat.pow_le_pow_right (by omega) (by omega)
    omega
  have hx' : X / 2 ^ k % 2 ^ c = 0 := by exact_mod_cast hx
  have e := u32_or_nat X (F * 2 ^ k) (by omega) hlt
  rw [nat_or_field X F k c hx' hf'] at e
  simpa using e
theorem and_mask {x : Int} (c : Nat) (h0 : 0 ≤ x) (h1 : x < 4294967296) (hc : c ≤ 31) : bits .and .u32 x (2 ^ c - 1) = x % 2 ^ c := by
  obtain ⟨X, rfl⟩ : ∃ n : Nat, x = n := ⟨x.toNat, by omega⟩
  have p : 1 ≤ 2 ^ c := Nat.one_le_two_pow
  have q : 2 ^ c ≤ 2 ^ 31 := Nat.pow_le_pow_right (by omega) hc
  have e : ((2 : Int) ^ c - 1) = ((2 ^ c - 1 : Nat) : Int) := by
    rw [Int.natCast_sub p]; simp
  rw [e, u32_and_nat X (2 ^ c - 1) (by omega) (by omega), Nat.and_two_pow_sub_one_eq_mod]
  simp

/-- The four pieces of a format: from, count, at. -/
def pcs (f : Int) : List (Int × Int × Int) :=
  if f = 85 then [(12, 20, 12), (0, 0, 0), (0, 0, 0), (0, 0, 0)]
  else if f = 74 then [(20, 1, 31), (1, 10, 21), (11, 1, 20), (12, 8, 12)]
  else if f = 73 then [(0, 12, 20), (0, 0, 0), (0, 0, 0), (0, 0, 0)]
  else if f = 72 then [(0, 5, 20), (0, 0, 0), (0, 0, 0), (0, 0, 0)]
  else if f = 83 then [(0, 5, 7), (5, 7, 25), (0, 0, 0), (0, 0, 0)]
  else if f = 66 then [(12, 1, 31), (5, 6, 25), (1, 4, 8), (11, 1, 7)]
  else [(0, 0, 0), (0, 0, 0), (0, 0, 0), (0, 0, 0)]
def pF (f : Int) (j : Nat) : Int := ((pcs f).getD j (0, 0, 0)).1
def pC (f : Int) (j : Nat) : Int := ((pcs f).getD j (0, 0, 0)).2.1
def pA (f : Int) (j : Nat) : Int := ((pcs f).getD j (0, 0, 0)).2.2
def pArr (f : Int) : Array Value := #[.int .i64 (pF f 0), .int .i64 (pC f 0), .int .i64 (pA f 0), .int .i64 (pF f 1), .int .i64 (pC f 1), .int .i64 (pA f 1), .int .i64 (pF f 2), .int .i64 (pC f 2), .int .i64 (pA f 2), .int .i64 (pF f 3), .int .i64 (pC f 3), .int .i64 (pA f 3)]
theorem p_in (f : Int) (hf : isForm f) (j : Nat) (hj : j < 4) : 0 ≤ pF f j ∧ pF f j ≤ 31 ∧ 0 ≤ pC f j ∧ pC f j ≤ 31 ∧ 0 ≤ pA f j ∧ pA f j ≤ 31 ∧ pC f j + pA f j ≤ 32 ∧ pC f j + pF f j ≤ 32 := by
  have a : ∀ j, j < 4 → (0 ≤ pF 85 j ∧ pF 85 j ≤ 31 ∧ 0 ≤ pC 85 j ∧ pC 85 j ≤ 31 ∧ 0 ≤ pA 85 j ∧ pA 85 j ≤ 31 ∧ pC 85 j + pA 85 j ≤ 32 ∧ pC 85 j + pF 85 j ≤ 32) := by decide
  have b : ∀ j, j < 4 → (0 ≤ pF 74 j ∧ pF 74 j ≤ 31 ∧ 0 ≤ pC 74 j ∧ pC 74 j ≤ 31 ∧ 0 ≤ pA 74 j ∧ pA 74 j ≤ 31 ∧ pC 74 j + pA 74 j ≤ 32 ∧ pC 74 j + pF 74 j ≤ 32) := by decide
  have c : ∀ j, j < 4 → (0 ≤ pF 73 j ∧ pF 73 j ≤ 31 ∧ 0 ≤ pC 73 j ∧ pC 73 j ≤ 31 ∧ 0 ≤ pA 73 j ∧ pA 73 j ≤ 31 ∧ pC 73 j + pA 73 j ≤ 32 ∧ pC 73 j + pF 73 j ≤ 32) := by decide
  have d : ∀ j, j < 4 → (0 ≤ pF 72 j ∧ pF 72 j ≤ 31 ∧ 0 ≤ pC 72 j ∧ pC 72 j ≤ 31 ∧ 0 ≤ pA 72 j ∧ pA 72 j ≤ 31 ∧ pC 72 j + pA 72 j ≤ 32 ∧ pC 72 j + pF 72 j ≤ 32) := by decide
  have e : ∀ j, j < 4 → (0 ≤ pF 83 j ∧ pF 83 j ≤ 31 ∧ 0 ≤ pC 83 j ∧ pC 83 j ≤ 31 ∧ 0 ≤ pA 83 j ∧ pA 83 j ≤ 31 ∧ pC 83 j + pA 83 j ≤ 32 ∧ pC 83 j + pF 83 j ≤ 32) := by decide
  have g : ∀ j, j < 4 → (0 ≤ pF 66 j ∧ pF 66 j ≤ 31 ∧ 0 ≤ pC 66 j ∧ pC 66 j ≤ 31 ∧ 0 ≤ pA 66 j ∧ pA 66 j ≤ 31 ∧ pC 66 j + pA 66 j ≤ 32 ∧ pC 66 j + pF 66 j ≤ 32) := by decide
  have h : ∀ j, j < 4 → (0 ≤ pF 82 j ∧ pF 82 j ≤ 31 ∧ 0 ≤ pC 82 j ∧ pC 82 j ≤ 31 ∧ 0 ≤ pA 82 j ∧ pA 82 j ≤ 31 ∧ pC 82 j + pA 82 j ≤ 32 ∧ pC 82 j + pF 82 j ≤ 32) := by decide
  have i : ∀ j, j < 4 → (0 ≤ pF 0 j ∧ pF 0 j ≤ 31 ∧ 0 ≤ pC 0 j ∧ pC 0 j ≤ 31 ∧ 0 ≤ pA 0 j ∧ pA 0 j ≤ 31 ∧ pC 0 j + pA 0 j ≤ 32 ∧ pC 0 j + pF 0 j ≤ 32) := by decide
  rcases hf with rfl | rfl | rfl | rfl | rfl | rfl | rfl | rfl
  all_goals first | exact a j hj | exact b j hj | exact c j hj | exact d j hj | exact e j hj | exact g j hj | exact h j hj | exact i j hj
set_option maxHeartbeats 4000000 in
theorem c64 (f : Int) (hf : isForm f) (w : World) :
    Calls Tryz.prog 64 #[.int .u8 f] w fun e w' => e = .returned (.agg (pArr f)) ∧ Grown w w' := by
  rcases hf with rfl | rfl | rfl | rfl | rfl | rfl | rfl | rfl
  all_goals
    go_enter Tryz.func64, Tryz.ntmps64
    go_wp2
    refine bodyPost_ret (results_cell_row rfl _ _ w.heap.size 99 _ (0, 0) _ rfl (heap_alloc_new _ _) Tryz.underlying99 rfl (by kernel_rfl)) rfl ⟨by rfl, (Grown.refl _).alloc _ _⟩
theorem index77 (x0 x1 x2 x3 x4 x5 x6 x7 x8 x9 x10 x11 : Value) (w : World) :
    (Instr.index 99 (.agg #[x0, x1, x2, x3, x4, x5, x6, x7, x8, x9, x10, x11]) (.int .i64 0)).run Tryz.prog w = .ok (.agg #[x0, x1, x2]) w ∧
    (Instr.index 99 (.agg #[x0, x1, x2, x3, x4, x5, x6, x7, x8, x9, x10, x11]) (.int .i64 1)).run Tryz.prog w = .ok (.agg #[x3, x4, x5]) w ∧
    (Instr.index 99 (.agg #[x0, x1, x2, x3, x4, x5, x6, x7, x8, x9, x10, x11]) (.int .i64 2)).run Tryz.prog w = .ok (.agg #[x6, x7, x8]) w ∧
    (Instr.index 99 (.agg #[x0, x1, x2, x3, x4, x5, x6, x7, x8, x9, x10, x11]) (.int .i64 3)).run Tryz.prog w = .ok (.agg #[x9, x10, x11]) w := ⟨by kernel_rfl, by kernel_rfl, by kernel_rfl, by kernel_rfl⟩
theorem index_pArr (f : Int) (j : Nat) (hj : j < 4) (w : World) : (Instr.index 99 (.agg (pArr f)) (.int .i64 j)).run Tryz.prog w = .ok (.agg #[.int .i64 (pF f j), .int .i64 (pC f j), .int .i64 (pA f j)]) w := by
  obtain ⟨a, b, c, d⟩ := index77 (.int .i64 (pF f 0)) (.int .i64 (pC f 0)) (.int .i64 (pA f 0)) (.int .i64 (pF f 1)) (.int .i64 (pC f 1)) (.int .i64 (pA f 1)) (.int .i64 (pF f 2)) (.int .i64 (pC f 2)) (.int .i64 (pA f 2)) (.int .i64 (pF f 3)) (.int .i64 (pC f 3)) (.int .i64 (pA f 3)) w
  have : j = 0 ∨ j = 1 ∨ j = 2 ∨ j = 3 := by omega
  rcases this with rfl | rfl | rfl | rfl
  · exact a
  · exact b
  · exact c
  · exact d
theorem keep3 {W w1 w2 : World} {b : Nat} {x y z : Value} (h : Grown W w1 ∧ w1.cell? ⟨b, 0, none⟩ = some x ∧ w1.cell? ⟨b, 1, none⟩ = some y ∧ w1.cell? ⟨b, 2, none⟩ = some z) (hg : Grown w1 w2) :
    Grown W w2 ∧ w2.cell? ⟨b, 0, none⟩ = some x ∧ w2.cell? ⟨b, 1, none⟩ = some y ∧ w2.cell? ⟨b, 2, none⟩ = some z :=
  ⟨grown_trans h.1 hg, grown_cell hg h.2.1, grown_cell hg h.2.2.1, grown_cell hg h.2.2.2⟩
theorem keepG {W w1 : World} {b : Nat} {x y z : Value} (h : Grown W w1 ∧ w1.cell? ⟨b, 0, none⟩ = some x ∧ w1.cell? ⟨b, 1, none⟩ = some y ∧ w1.cell? ⟨b, 2, none⟩ = some z) : Grown W w1 := h.1
/-- What has been scattered of a number after so many pieces. -/
def scat (f u : Int) : Nat → Int
  | 0 => 0
  | j + 1 => bits .or .u32 (scat f u j) (u / 2 ^ (pF f j).toNat % 2 ^ (pC f j).toNat * 2 ^ (pA f j).toNat % 4294967296)
set_option maxRecDepth 100000 in
set_option maxHeartbeats 4000000 in
theorem c44 (f imm : Int) (hf : isForm f) (w : World) :
    Calls Tryz.prog 44 #[.int .u8 f, .int .i64 imm] w fun e w' => e = .returned (.int .u32 (scat f (imm % 4294967296) 4)) ∧ Grown w w' := by
  go_enter Tryz.func44, Tryz.ntmps44
  go_wp2_with (go_at_call 64; (with_reducible refine (c64 _ hf _).mono ?_); rintro e w' ⟨rfl, hg⟩; have HG := Lib.hid hg; clear hg)
  go_loopw [5, 10] (fun a j wr => ∃ k : Nat, k ≤ 4 ∧ j = .int .i64 k ∧ a = .int .u32 (scat f (imm % 4294967296) k) ∧ Hid (Grown w wr)) (fun _ j _ => 4 - (intOf j).toNat)
  case atStart => exact ⟨0, by omega, rfl, rfl, HG⟩
  case round =>
    obtain ⟨k, hk, rfl, rfl, HW⟩ := hrel
    clear HG
    by_cases hlt : k < 4
    · have hix := index_pArr f k hlt
      obtain ⟨b1, b2, b3, b4, b5, b6, b7, b8⟩ := p_in f hf k hlt
      have HS : Hid (scat f (imm % 4294967296) (k + 1) = bits .or .u32 (scat f (imm % 4294967296) k) (imm % 4294967296 / 2 ^ (pF f k).toNat % 2 ^ (pC f k).toNat * 2 ^ (pA f k).toNat % 4294967296)) := Lib.hid rfl
      have u0 : 0 ≤ imm % 4294967296 := by omega
      have u1 : imm % 4294967296 < 4294967296 := by omega
      have EA := and_mask (x := imm % 4294967296 / 2 ^ (pF f k).toNat) (pC f k).toNat (Int.ediv_nonneg u0 (by have := one_le_pow2 (pF f k).toNat; omega)) (by have := Int.ediv_le_self (2 ^ (pF f k).toNat) u0; omega) (by omega)
      have HE := Lib.hid EA
      clear EA
      generalize pF f k = F at *
      generalize pC f k = C at *
      generalize pA f k = A at *
      go_wp2
      have G0 : Grown w (wr.alloc (.cells #[.int .i64 F, .int .i64 C, .int .i64 A] 98)) := HW.out.alloc _ _
      have z0 := row_cell wr #[.int .i64 F, .int .i64 C, .int .i64 A] 98 0 _ rfl
      have z1 := row_cell wr #[.int .i64 F, .int .i64 C, .int .i64 A] 98 1 _ rfl
      have z2 := row_cell wr #[.int .i64 F, .int .i64 C, .int .i64 A] 98 2 _ rfl
      clear HW
      generalize wr.alloc (.cells #[.int .i64 F, .int .i64 C, .int .i64 A] 98) = w2 at *
      generalize wr.heap.size = b at *
      go_region_held3 (fun w' => Grown w w' ∧ w'.cell? ⟨b, 0, none⟩ = some (.int .i64 F) ∧ w'.cell? ⟨b, 1, none⟩ = some (.int .i64 C) ∧ w'.cell? ⟨b, 2, none⟩ = some (.int .i64 A))
        (first | exact ⟨G0, z0, z1, z2⟩ | assumption | exact keep3 (by assumption) (by assumption))
        (first | (go_at_call 65; refine (c65 _ _ _ b3 b4 _).mono ?_; rintro e w' ⟨rfl, hg⟩))
      have HG' : Hid (Grown w w') := Lib.hid (keepG (by assumption))
      clear G0 z0 z1 z2
      go_wp2
      go_roundw
      case rel => exact ⟨k + 1, by omega, by go_num, by rw [HS.out, ← HE.out]; simp only [IntKind.wrap_u32], HG'⟩
      case measure => simp [intOf]; omega
    · have hk4 : k = 4 := by omega
      subst hk4
      go_wp2
      go_ret
      exact ⟨rfl, HW.out⟩
theorem or_in (x y : Int) : 0 ≤ bits .or .u32 x y ∧ bits .or .u32 x y ≤ 4294967295 := wf_u32 (wf_bits .or .u32 x y)
theorem signF_in {a : Int} (n : Int) (h : 0 ≤ a ∧ a ≤ 4294967295) : 0 ≤ signF a n ∧ signF a n ≤ 4294967295 := by
  unfold signF; split
  · exact h
  · exact mod_in _
/-- What has been gathered of a word after so many pieces. -/
def gath (f u : Int) : Nat → Int
  | 0 => 0
  | j + 1 => bits .or .u32 (gath f u j) (u / 2 ^ (pA f j).toNat % 2 ^ (pC f j).toNat * 2 ^ (pF f j).toNat % 4294967296)
set_option maxRecDepth 100000 in
set_option maxHeartbeats 4000000 in
theorem c43 (f u : Int) (hf : isForm f) (u0 : 0 ≤ u) (u1' : u ≤ 4294967295) (w : World) :
    Calls Tryz.prog 43 #[.int .u8 f, .int .u32 u] w fun e w' => e = .returned (.int .i64 (sg (signF (gath f u 4) (immB f)))) ∧ Grown w w' := by
  have u1 : u < 4294967296 := by omega
  go_enter Tryz.func43, Tryz.ntmps43
  go_wp2_with (go_at_call 64; (with_reducible refine (c64 _ hf _).mono ?_); rintro e w' ⟨rfl, hg⟩; have HG := Lib.hid hg; clear hg)
  go_loopw [5, 10] (fun a j wr => ∃ k : Nat, k ≤ 4 ∧ j = .int .i64 k ∧ a = .int .u32 (gath f (u) k) ∧ Hid (Grown w wr)) (fun _ j _ => 4 - (intOf j).toNat)
  case atStart => exact ⟨0, by omega, rfl, rfl, HG⟩
  case round =>
    obtain ⟨k, hk, rfl, rfl, HW⟩ := hrel
    clear HG
    by_cases hlt : k < 4
    · have hix := index_pArr f k hlt
      obtain ⟨b1, b2, b3, b4, b5, b6, b7, b8⟩ := p_in f hf k hlt
      have HS : Hid (gath f (u) (k + 1) = bits .or .u32 (gath f (u) k) (u / 2 ^ (pA f k).toNat % 2 ^ (pC f k).toNat * 2 ^ (pF f k).toNat % 4294967296)) := Lib.hid rfl
      have EA := and_mask (x := u / 2 ^ (pA f k).toNat) (pC f k).toNat (Int.ediv_nonneg u0 (by have := one_le_pow2 (pA f k).toNat; omega)) (by have := Int.ediv_le_self (2 ^ (pA f k).toNat) u0; omega) (by omega)
      have HE := Lib.hid EA
      clear EA
      generalize pF f k = F at *
      generalize pC f k = C at *
      generalize pA f k = A at *
      go_wp2
      have G0 : Grown w (wr.alloc (.cells #[.int .i64 F, .int .i64 C, .int .i64 A] 98)) := HW.out.alloc _ _
      have z0 := row_cell wr #[.int .i64 F, .int .i64 C, .int .i64 A] 98 0 _ rfl
      have z1 := row_cell wr #[.int .i64 F, .int .i64 C, .int .i64 A] 98 1 _ rfl
      have z2 := row_cell wr #[.int .i64 F, .int .i64 C, .int .i64 A] 98 2 _ rfl
      clear HW
      generalize wr.alloc (.cells #[.int .i64 F, .int .i64 C, .int .i64 A] 98) = w2 at *
      generalize wr.heap.size = b at *
      go_region_held3 (fun w' => Grown w w' ∧ w'.cell? ⟨b, 0, none⟩ = some (.int .i64 F) ∧ w'.cell? ⟨b, 1, none⟩ = some (.int .i64 C) ∧ w'.cell? ⟨b, 2, none⟩ = some (.int .i64 A))
        (first | exact ⟨G0, z0, z1, z2⟩ | assumption | exact keep3 (by assumption) (by assumption))
        (first | (go_at_call 65; refine (c65 _ _ _ b3 b4 _).mono ?_; rintro e w' ⟨rfl, hg⟩))
      have HG' : Hid (Grown w w') := Lib.hid (keepG (by assumption))
      clear G0 z0 z1 z2
      go_wp2
      go_roundw
      case rel => exact ⟨k + 1, by omega, by go_num, by rw [HS.out, ← HE.out]; simp only [IntKind.wrap_u32], HG'⟩
      case measure => simp [intOf]; omega
    · have hk4 : k = 4 := by omega
      subst hk4
      obtain ⟨q0, q1⟩ : 0 ≤ gath f u 4 ∧ gath f u 4 ≤ 4294967295 := or_in _ _
      obtain ⟨r0, r1⟩ := signF_in (immB f) ⟨q0, q1⟩
      have hsg := Lib.hid (sg_wrap r0 r1)
      go_wp2_with (first
        | (go_at_call 67; (with_reducible refine (c67 _ hf _).mono ?_); rintro e w' ⟨rfl, rfl⟩)
        | (go_at_call 66; (with_reducible refine (c66 _ _ q0 q1 _).mono ?_); rintro e w' ⟨rfl, hg⟩; have HG' := Lib.hid (grown_trans HW.out hg); clear hg))
      go_ret
      exact ⟨ret_int hsg.out, HG'.out⟩
end Go.Proofs.YtlagdgkjpnocfaaGreatDoor
