/-
  Items (layer 5): the page's examples hold.
-/
import Derived.Test.YtnjlcimeaoedcaaQAsmX
import Derived.Test.YtnjlcimeaoedcaaQRefM
namespace Go.Proofs.Ytnjlcimeaoedcaa
open Go.RowKit
set_option linter.unusedVariables false
set_option linter.unusedSimpArgs false
theorem itvals_get (es : List It) : ∀ k, k < es.length → ∀ j, j < 7 → (es.flatMap It.vals)[k * 7 + j]? = (es.getD k it0).vals[j]? := by
  induction es with
  | nil => intro k hk; simp at hk
  | cons a t ih =>
    intro k hk j hj
    cases k with
    | zero =>
      simp only [List.flatMap_cons, Nat.zero_mul, Nat.zero_add, List.getD_cons_zero]
      rw [List.getElem?_append_left (by simpa [It.vals] using hj)]
    | succ k =>
      simp only [List.flatMap_cons, List.getD_cons_succ]
      rw [List.getElem?_append_right (by simp [It.vals]; omega)]
      have e : (k + 1) * 7 + j - a.vals.length = k * 7 + j := by simp [It.vals]; omega
      rw [e]
      exact ih k (by simpa using hk) j hj
theorem itAt_new (w : World) (l : List It) (cs : Array Value) (t : TypeId) (h : cs = (l.flatMap It.vals).toArray) : ItAt (w.alloc (.cells cs t)).heap.size (w.alloc (.cells cs t)) (some ⟨w.heap.size, 0, none⟩) l := fun k hk => by
  refine ⟨_, _, rfl, alloc_lt _ _, fun j hj => ?_⟩
  subst h
  rw [cell_of_row _ _ _ _ t (0, 0) (heap_alloc_new _ _)]
  rw [Nat.zero_add, ← itvals_get l k hk j hj]
  simp
theorem addr_stop (acc : List (Int × Nat)) (s : List Int) (k : Nat) : ∀ n, k ≤ n → (∀ m : Nat, k ≤ m → m < n → hasL acc (m : Int) = false) → addrK acc s n = addrK acc s k := by
  intro n hn
  induction hn with
  | refl => exact fun _ => rfl
  | @step m hm ih =>
    intro h
    rw [addrK_no (h m hm (by omega))]
    exact ih (fun q h1 h2 => h q h1 (by omega))
/-- The page's first items. -/
def ex1 : List It := [⟨2, 0, 0, 0, 0, 0, 0⟩, ⟨1, 19, 1, 1, 0, -1, 0⟩, ⟨3, 6, 0, 1, 0, 0, 0⟩]
theorem ex1_right : ∀ k, k < ex1.length → rightB (ex1.getD k it0) = true := by decide +kernel
theorem ex1_fit : Fit ex1 := by unfold Fit; decide +kernel
theorem ex1_tw : twiceK ex1 ex1.length = false := by decide +kernel
theorem ex1_lk : lackK ex1 (accL ex1) ex1.length = false := by decide +kernel
theorem ex1_ws : ∃ x, wordsK ex1 (golL ex1) (farL ex1) ex1.length = some [x, 4261453539] := ⟨encW 19 1 1 0 (-1), by decide +kernel⟩
theorem ex1_4 : ∀ k, k < ex1.length → (ex1.getD k it0).k ≠ 4 := by decide +kernel
theorem ex1_all : ∀ k, k < ex1.length → ((insK ex1 (golL ex1) (farL ex1) k).getD []).all fitI = true := by decide +kernel
theorem ex1_addr : addrK (accL ex1) (szF ex1 (farL ex1)) 4096 = [0] := by
  rw [addr_stop _ _ 1 4096 (by omega) (fun m h1 h2 => ?_)]
  · decide +kernel
  · have : accL ex1 = [(0, 0)] := by decide +kernel
    rw [this]
    simp [hasL]; omega
theorem fits_of {l : List It} (h : ∀ k, k < l.length → ((insK l (golL l) (farL l) k).getD []).all fitI = true) : ∀ k, k < l.length → ∀ L, insK l (golL l) (farL l) k = some L → ∀ i ∈ L, fitI i = true := fun k hk L hL i hi => by
  have := h k hk
  rw [hL] at this
  exact List.all_eq_true.1 this i hi
/-- The words and the labels of the page's first items. -/
theorem asm_ex1 : ∃ x : Int, ∀ w : World, Calls Try.prog 7 #[.slice (some ⟨w.heap.size, 0, none⟩) 3 3] (w.alloc (.cells #[.int .i64 2, .int .i64 0, .int .i64 0, .int .i64 0, .int .i64 0, .int .i64 0, .int .i64 0, .int .i64 1, .int .i64 19, .int .i64 1, .int .i64 1, .int .i64 0, .int .i64 (-1), .int .i64 0, .int .i64 3, .int .i64 6, .int .i64 0, .int .i64 1, .int .i64 0, .int .i64 0, .int .i64 0] 40)) fun e w' =>
    ∃ g c g' d, e = .returned (.tuple #[.slice (some ⟨g, 0, none⟩) 2 c, .slice (some ⟨g', 0, none⟩) 1 d, .int .i64 0]) ∧ Fr (fun _ => False) w w' ∧ w'.cell? ⟨g, 1, none⟩ = some (.int .u32 4261453539) ∧ w'.cell? ⟨g', 0, none⟩ = some (.int .i64 0) := by
  obtain ⟨x, hx⟩ := ex1_ws
  refine ⟨x, fun w => ?_⟩
  refine (asm_ok (some ⟨w.heap.size, 0, none⟩) 3 ex1 [x, 4261453539] (by decide) ex1_right ex1_fit ex1_tw ex1_lk hx ex1_4 (fits_of ex1_all) _ (itAt_new w ex1 _ 40 rfl)).mono (fun e w' h => ?_)
  rw [ex1_addr] at h
  obtain ⟨a, c, b, d, rfl, hf, hw, hl⟩ := h
  obtain ⟨g, rfl, c1⟩ := hw 1 (by simp)
  obtain ⟨g', rfl, c2⟩ := hl 0 (by simp)
  exact ⟨g, c, g', d, rfl, (fr_al (Fr.refl _ _) _).trans hf, c1, c2⟩
/-- A constant alone. -/
def exN (rd n : Int) : List It := [⟨5, 0, rd, 0, 0, n, 0⟩]
theorem exN_lt {rd n : Int} {k : Nat} (h : k < (exN rd n).length) : k = 0 := by simp [exN] at h; omega
theorem lo_sg (n : Int) : sg (loW n) = signN (n % 4294967296) 12 := by
  unfold loW signF
  rw [if_neg (by omega)]
  have h : -2048 ≤ signN (n % 4294967296) 12 ∧ signN (n % 4294967296) 12 ≤ 2047 := by unfold signN; simp only [Int.reducePow]; split <;> omega
  show sg (signN (n % 4294967296) 12 % 4294967296) = _
  generalize signN (n % 4294967296) 12 = s at *
  unfold sg; split <;> omega
theorem lo_in (n : Int) : -2048 ≤ sg (loW n) ∧ sg (loW n) ≤ 2047 ∧ (n - sg (loW n)) % 4096 = 0 ∧ loW n = sg (loW n) % 4294967296 := by
  have h := loW_in n
  refine ⟨?_, ?_, ?_, (sg_mod h.1 h.2).symm⟩
  all_goals
    rw [lo_sg]
    unfold signN
    simp only [Int.reducePow]
    split <;> omega
theorem hi_in (n : Int) : -2147483648 ≤ sg (hiW n) ∧ sg (hiW n) ≤ 2147479552 ∧ sg (hiW n) % 4096 = 0 ∧ (sg (hiW n) + sg (loW n) - n) % 4294967296 = 0 := by
  obtain ⟨a, b, c, d⟩ := lo_in n
  unfold hiW
  rw [d]
  generalize sg (loW n) = s at *
  refine ⟨?_, ?_, ?_, ?_⟩
  all_goals (unfold sg; split <;> omega)
theorem fit_addi {rd r1 imm : Int} (h0 : 0 ≤ rd ∧ rd ≤ 31) (h1 : 0 ≤ r1 ∧ r1 ≤ 31) (h2 : -2048 ≤ imm ∧ imm ≤ 2047) : fitI ⟨19, rd, r1, 0, imm⟩ = true := by
  show fitsB rd r1 0 imm (fm (ix 19)) = true
  have e : fm (ix 19) = 73 := by decide
  rw [e]
  unfold fitsB
  rw [room_all (by unfold isForm; omega) (by omega)]
  simp [regB, uRd, uRs1, uRs2, roomB]
  omega
theorem fit_lui {rd imm : Int} (h0 : 0 ≤ rd ∧ rd ≤ 31) (h2 : -2147483648 ≤ imm ∧ imm ≤ 2147479552 ∧ imm % 4096 = 0) : fitI ⟨1, rd, 0, 0, imm⟩ = true := by
  show fitsB rd 0 0 imm (fm (ix 1)) = true
  have e : fm (ix 1) = 85 := by decide
  rw [e]
  unfold fitsB
  rw [room_all (by unfold isForm; omega) (by omega)]
  simp [regB, uRd, uRs1, uRs2, roomB]
  omega
theorem num_fits {rd n : Int} (h0 : 0 ≤ rd ∧ rd ≤ 31) : ∀ i ∈ numI rd n, fitI i = true := by
  obtain ⟨a, b, _, _⟩ := lo_in n
  obtain ⟨c, d, e, _⟩ := hi_in n
  intro i hi
  unfold numI at hi
  split at hi
  · simp at hi; subst hi; exact fit_addi h0 (by omega) ⟨a, b⟩
  · split at hi
    · simp at hi; subst hi; exact fit_lui h0 ⟨c, d, e⟩
    · simp at hi
      rcases hi with rfl | rfl
      · exact fit_lui h0 ⟨c, d, e⟩
      · exact fit_addi h0 h0 ⟨a, b⟩
theorem exN_right {rd n : Int} (h0 : 0 ≤ rd ∧ rd ≤ 31) (hn : 0 ≤ n ∧ n ≤ 4294967295) : ∀ k, k < (exN rd n).length → rightB ((exN rd n).getD k it0) = true := fun k hk => by
  obtain rfl := exN_lt hk
  have := fit_lui (rd := rd) (imm := 0) h0 (by omega)
  have e : fitsB rd 0 0 0 85 = true := this
  simp [exN, rightB, conB, e]
  omega
theorem exN_bad {rd n : Int} (h0 : ¬ (0 ≤ rd ∧ rd ≤ 31)) : rightB ((exN rd n).getD 0 it0) = false := by
  have e : fitsB rd 0 0 0 85 = false := by
    unfold fitsB
    have : regB rd (uRd 85) = false := by simp [regB, uRd]; omega
    rw [this]; simp
  simp [exN, rightB, conB, e]
theorem exN_far (rd n : Int) (goals : List Int) : ∀ i k, farN (exN rd n) goals i k = false
  | 0, _ => rfl
  | i + 1, k => by
    show (farN (exN rd n) goals i k || _) = false
    rw [exN_far rd n goals i k]
    have : isBr (exN rd n) k = false := by
      unfold isBr exN
      cases k with
      | zero => rfl
      | succ k => simp [it0]
    rw [this]; rfl
theorem exN_ins (rd n : Int) (goals : List Int) (F : Nat → Bool) : insK (exN rd n) goals F 0 = some (numI rd n) := by
  unfold insK; simp [exN]
theorem exN_ws (rd n : Int) : wordsK (exN rd n) (golL (exN rd n)) (farL (exN rd n)) 1 = some ((numI rd n).map encI) := by
  have := wordsK_succ (l := exN rd n) (goals := golL (exN rd n)) (F := farL (exN rd n)) (k := 0) (ws := []) rfl (exN_ins _ _ _ _)
  simpa using this
theorem exN_addr (rd n : Int) : addrK (accL (exN rd n)) (szF (exN rd n) (farL (exN rd n))) 4096 = [] := by
  have h : accL (exN rd n) = [] := by simp [accL, exN, labsK]
  rw [h, addr_stop _ _ 0 4096 (by omega) (fun m _ _ => rfl)]
  rfl
/-- A constant alone is made into its words. -/
theorem asm_num (rd n : Int) (h0 : 0 ≤ rd ∧ rd ≤ 31) (hn : 0 ≤ n ∧ n ≤ 4294967295) (w : World) : Calls Try.prog 7 #[.slice (some ⟨w.heap.size, 0, none⟩) 1 1] (w.alloc (.cells #[.int .i64 5, .int .i64 0, .int .i64 rd, .int .i64 0, .int .i64 0, .int .i64 n, .int .i64 0] 40)) fun e w' =>
    ∃ a c b d, e = .returned (.tuple #[.slice a (numI rd n).length c, .slice b 0 d, .int .i64 0]) ∧ Fr (fun _ => False) w w' ∧ ∀ k, k < (numI rd n).length → ∃ g, a = some ⟨g, 0, none⟩ ∧ w'.cell? ⟨g, k, none⟩ = some (.int .u32 (encI ((numI rd n).getD k in0))) := by
  refine (asm_ok (some ⟨w.heap.size, 0, none⟩) 1 (exN rd n) ((numI rd n).map encI) (by simp [exN]) (exN_right h0 hn) (fun k hk => by obtain rfl := exN_lt hk; simp [exN]; omega) (by simp [exN, twiceK]) (by simp [exN, lackK, isTo]) (exN_ws rd n) (fun k hk => by obtain rfl := exN_lt hk; simp [exN])
    (fun k hk L hL => by obtain rfl := exN_lt hk; rw [exN_ins] at hL; cases hL; exact num_fits h0) _ (itAt_new w (exN rd n) _ 40 rfl)).mono (fun e w' h => ?_)
  rw [exN_addr] at h
  obtain ⟨a, c, b, d, rfl, hf, hw, hl⟩ := h
  refine ⟨a, c, b, d, by simp, (fr_al (Fr.refl _ _) _).trans hf, fun k hk => ?_⟩
  obtain ⟨g, e, hc⟩ := hw k (by simpa using hk)
  refine ⟨g, e, ?_⟩
  rw [hc]
  simp [List.getD_eq_getElem?_getD, List.getElem?_eq_getElem hk]
theorem asm_num_bad (rd n : Int) (h0 : ¬ (0 ≤ rd ∧ rd ≤ 31)) (w : World) : Calls Try.prog 7 #[.slice (some ⟨w.heap.size, 0, none⟩) 1 1] (w.alloc (.cells #[.int .i64 5, .int .i64 0, .int .i64 rd, .int .i64 0, .int .i64 0, .int .i64 n, .int .i64 0] 40)) fun e w' =>
    e = .returned (.tuple #[.slice none 0 0, .slice none 0 0, .int .i64 1]) ∧ Fr (fun _ => False) w w' :=
  (asm_bad (some ⟨w.heap.size, 0, none⟩) 1 (exN rd n) (by simp [exN]) 0 (by simp [exN]) (exN_bad h0) _ (itAt_new w (exN rd n) _ 40 rfl)).mono (fun e w' h => ⟨h.1, (fr_al (Fr.refl _ _) _).trans h.2⟩)
end Go.Proofs.Ytnjlcimeaoedcaa
