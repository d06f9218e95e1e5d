/-
  The document's own tables of types (layer 8): how they lie; Is, Find. The document's own tables of types (layer 8): put.
-/
import Derived.Test.YtlhkhgkgjdfcgaaQKindAa
import Derived.LoopTactic
import Derived.Outline
import Derived.Deep.AppendLies
import Derived.Deep.QuietTactic
import Derived.BigQuiet
namespace Go.Proofs.Ytlhkhgkgjdfcgaa
open Go.RowKit
set_option linter.unusedVariables false
set_option linter.unusedSimpArgs false
structure RT where
  kind : Int
  elem : Int
  len : Int
  name : ByteArray
  fa : Option Addr
  fn : Nat
  fc : Nat
  opn : Bool
def RT.vals (e : RT) : List Value := [.int .i64 e.kind, .int .i64 e.elem, .int .i64 e.len, .string e.name, .slice e.fa e.fn e.fc, .bool e.opn]
def rt0 : RT := ⟨0, 0, 0, ⟨#[]⟩, none, 0, 0, false⟩
def rt1 : RT := ⟨1, 0, 0, ⟨#[]⟩, none, 0, 0, false⟩
def rt2 : RT := ⟨2, 0, 0, ⟨#[]⟩, none, 0, 0, false⟩
def begin3 : List RT := [rt0, rt1, rt2]
theorem rvals_len (fs : List RT) : (fs.flatMap RT.vals).length = fs.length * 6 := by
  induction fs with
  | nil => rfl
  | cons a t ih => simp [ih, RT.vals]; omega
theorem rvals_get (es : List RT) : ∀ k, k < es.length → ∀ j, j < 6 → (es.flatMap RT.vals)[k * 6 + j]? = (es.getD k rt0).vals[j]? := by
  induction es with
  | nil => intro k hk; simp at hk
  | cons a t ih =>
    intro k hk j hj
    cases k with
    | zero =>
      simp only [List.flatMap_cons, Nat.zero_mul, Nat.zero_add, List.getD_cons_zero]
      rw [List.getElem?_append_left (by simpa [RT.vals] using hj)]
    | succ k =>
      simp only [List.flatMap_cons, List.getD_cons_succ]
      rw [List.getElem?_append_right (by simp [RT.vals]; omega)]
      have e : (k + 1) * 6 + j - a.vals.length = k * 6 + j := by simp [RT.vals]; omega
      rw [e]
      exact ih k (by simpa using hk) j hj
/-- A slice of the document's types as it lies in memory. -/
def RAt (w : World) (a : Option Addr) (n : Nat) (rs : List RT) : Prop :=
  n = rs.length ∧ ∀ k, k < rs.length → ∃ g, a = some ⟨g, 0, none⟩ ∧ ∀ j, j < 6 → w.cell? ⟨g, k * 6 + j, none⟩ = (rs.getD k rt0).vals[j]?
theorem RAt.kept {F : Nat → Prop} {w w' : World} {a : Option Addr} {n : Nat} {rs : List RT} (h : RAt w a n rs) (hf : Fr F w w') (hn : ∀ g o, a = some ⟨g, o, none⟩ → rs.length ≠ 0 → ¬ F g) : RAt w' a n rs := by
  refine ⟨h.1, fun k hk => ?_⟩
  obtain ⟨g, ha, hc⟩ := h.2 k hk
  refine ⟨g, ha, fun j hj => ?_⟩
  have h1 : ∃ x, (rs.getD k rt0).vals[j]? = some x := ⟨_, List.getElem?_eq_getElem (by simpa [RT.vals] using hj)⟩
  obtain ⟨x, h1⟩ := h1
  rw [h1]
  exact hf.cell ((hc j hj).trans h1) (hn g 0 ha (by omega))
theorem RAt.quiet {w w' : World} {a : Option Addr} {n : Nat} {rs : List RT} (h : RAt w a n rs) (hf : Fr (fun _ => False) w w') : RAt w' a n rs := h.kept hf (fun _ _ _ _ => id)
theorem RAt.of_own {w : World} {base g n c : Nat} {rs : List RT} (h : w.ownsRow base 46 6 (.slice (some ⟨g, 0, none⟩) n c) n (rs.flatMap RT.vals)) (hn : n = rs.length) : RAt w (some ⟨g, 0, none⟩) n rs := by
  refine ⟨hn, fun k hk => ⟨g, rfl, fun j hj => ?_⟩⟩
  rw [h.cellAt (k * 6 + j) (by have := rvals_len rs; omega)]
  exact rvals_get rs k hk j hj
theorem is_of (a : Option Addr) (n c : Nat) (m : Int) (w : World) : Calls Try.prog 24 #[.slice a n c, .int .i64 m] w fun r w' => r = .returned (.bool (decide (0 ≤ m ∧ m < n))) ∧ w = w' := by
  by_cases h0 : 0 ≤ m
  · by_cases h1 : m < n
    · rw [decide_eq_true (p := 0 ≤ m ∧ m < n) ⟨h0, h1⟩]
      go_enter Try.func24, Try.ntmps24
      go_wp2
      go_ret
      exact ⟨rfl, rfl⟩
    · rw [decide_eq_false (p := 0 ≤ m ∧ m < n) (fun h => h1 h.2)]
      have d : decide (m < n) = false := decide_eq_false h1
      clear h1
      go_enter Try.func24, Try.ntmps24
      go_wp2
      go_ret
      exact ⟨rfl, rfl⟩
  · rw [decide_eq_false (p := 0 ≤ m ∧ m < n) (fun h => h0 h.1)]
    have d : decide (0 ≤ m) = false := decide_eq_false h0
    clear h0
    go_enter Try.func24, Try.ntmps24
    go_wp2
    go_ret
    exact ⟨rfl, rfl⟩
def isRName (nm : ByteArray) (e : RT) : Bool := e.kind == 5 && e.name.toList == nm.toList
theorem rt_at {fs : List RT} {P : RT → Bool} {k : Nat} (hk : k < fs.length) (h : P (fs.getD k rt0) = true) (hn : ∀ j, j < k → P (fs.getD j rt0) = false) : fs.findIdx P = k := by
  have e : ∀ j (hj : j < fs.length), fs.getD j rt0 = fs[j] := fun j hj => by rw [List.getD_eq_getElem?_getD, List.getElem?_eq_getElem hj]; rfl
  exact (List.findIdx_eq hk).2 ⟨by rw [← e k hk]; exact h, fun j hj => by rw [← e j (by omega)]; exact hn j hj⟩
theorem rt_no {fs : List RT} {P : RT → Bool} (hn : ∀ j, j < fs.length → P (fs.getD j rt0) = false) : fs.findIdx P = fs.length := by
  refine List.findIdx_eq_length.2 fun x hx => ?_
  obtain ⟨j, hj, rfl⟩ := List.mem_iff_getElem.1 hx
  have := hn j hj
  rw [List.getD_eq_getElem?_getD, List.getElem?_eq_getElem hj] at this
  exact this
def RFindP (rs : List RT) (nm : ByteArray) (w : World) (r : Ending) (w' : World) : Prop :=
  r = .returned (.int .i64 (if rs.findIdx (isRName nm) < rs.length then (rs.findIdx (isRName nm) : Int) else -1)) ∧ Fr (fun _ => False) w w'
theorem rfindP_yes {rs : List RT} {nm : ByteArray} {w w' : World} {k : Nat} (hk : k < rs.length) (h : isRName nm (rs.getD k rt0) = true) (hn : ∀ j, j < k → isRName nm (rs.getD j rt0) = false) (hf : Fr (fun _ => False) w w') : RFindP rs nm w (.returned (.int .i64 k)) w' := by
  unfold RFindP; rw [rt_at hk h hn, if_pos hk]; exact ⟨rfl, hf⟩
theorem rfindP_no {rs : List RT} {nm : ByteArray} {w w' : World} (hn : ∀ j, j < rs.length → isRName nm (rs.getD j rt0) = false) (hf : Fr (fun _ => False) w w') : RFindP rs nm w (.returned (.int .i64 (-1))) w' := by
  unfold RFindP; rw [rt_no hn, if_neg (by omega)]; exact ⟨rfl, hf⟩
set_option maxRecDepth 100000 in
set_option maxHeartbeats 1000000 in
theorem rfind_of {w : World} {a : Option Addr} {n c : Nat} {rs : List RT} (h : RAt w a n rs) (hfew : n ≤ 1000) (nm : ByteArray) :
    Calls Try.prog 22 #[.slice a n c, .string nm] w (RFindP rs nm w) := by
  have HC := Lib.hid h.2
  have HN := Lib.hid h.1
  have HY := Lib.hid (fun (k : Nat) (w' : World) => @rfindP_yes rs nm w w' k)
  have HNO := Lib.hid (fun (w' : World) => @rfindP_no rs nm w w')
  clear h
  go_enter Try.func22, Try.ntmps22
  go_wp2
  go_loopw [5] (fun q wr => ∃ k : Nat, q = .int .i64 k ∧ k ≤ n ∧ Hid ((∀ j, j < k → isRName nm (rs.getD j rt0) = false) ∧ Fr (fun _ => False) w wr)) (fun q _ => n - (intOf q).toNat)
  case atStart => exact ⟨0, rfl, Nat.zero_le _, Lib.hid ⟨fun j hj => by omega, Fr.refl _ _⟩⟩
  case round =>
    obtain ⟨k, rfl, hk, HW⟩ := hrel
    by_cases hlt : k < n
    · obtain ⟨g, rfl, hcell⟩ := HC.out k (by have := HN.out; omega)
      obtain ⟨e, he⟩ : ∃ e, rs.getD k rt0 = e := ⟨_, rfl⟩
      rw [he] at hcell
      have HE := Lib.hid he
      have HJ0 : Hid (∀ j, j < 6 → wr.cell? ⟨g, k * 6 + j, none⟩ = e.vals[j]?) := Lib.hid (fun j hj => by
        have h1 : ∃ x, e.vals[j]? = some x := ⟨_, List.getElem?_eq_getElem (by simpa [RT.vals] using hj)⟩
        obtain ⟨x, h1⟩ := h1
        rw [h1]
        exact HW.out.2.cell ((hcell j hj).trans h1) id)
      have q0 : wr.cell? ⟨g, k * 6, none⟩ = some (.int .i64 e.kind) := HJ0.out 0 (by decide)
      have q3 : wr.cell? ⟨g, k * 6 + 3, none⟩ = some (.string e.name) := HJ0.out 3 (by decide)
      have t0 : (0 : Int) ≤ k := by omega
      have t1 : (k : Int) < n := by omega
      clear hcell he
      by_cases h5 : e.kind = 5
      · by_cases hne : (e.name.toList == nm.toList) = true
        · have HI : Hid (isRName nm (rs.getD k rt0) = true) := Lib.hid (by rw [HE.out]; unfold isRName; rw [h5, hne]; rfl)
          go_wp2
          go_ret
          exact HY.out k _ (by have := HN.out; omega) HI.out HW.out.1 HW.out.2
        · have hnb : (e.name.toList == nm.toList) = false := by simpa using hne
          have HI : Hid (isRName nm (rs.getD k rt0) = false) := Lib.hid (by rw [HE.out]; unfold isRName; rw [hnb]; simp)
          go_wp2
          go_roundw
          case rel => exact ⟨k + 1, by go_num, by omega, Lib.hid ⟨fun j hj => by
            by_cases hjk : j < k
            · exact HW.out.1 j hjk
            · obtain rfl : j = k := by omega
              exact HI.out, HW.out.2⟩⟩
          case measure => simp [intOf]; omega
      · have h5b : (e.kind == 5) = false := by rw [beq_eq_false_iff_ne]; exact h5
        have HI : Hid (isRName nm (rs.getD k rt0) = false) := Lib.hid (by rw [HE.out]; unfold isRName; rw [h5b]; simp)
        go_wp2
        go_roundw
        case rel => exact ⟨k + 1, by go_num, by omega, Lib.hid ⟨fun j hj => by
          by_cases hjk : j < k
          · exact HW.out.1 j hjk
          · obtain rfl : j = k := by omega
            exact HI.out, HW.out.2⟩⟩
        case measure => simp [intOf]; omega
    · obtain rfl : n = k := by omega
      go_wp2
      go_ret
      exact HNO.out _ (by rw [← HN.out]; exact HW.out.1) HW.out.2
def zerosR : Array Value := #[.int .i64 0, .int .i64 0, .int .i64 0, .string ⟨#[]⟩, .slice none 0 0, .bool false]
theorem info_rt : (Try.prog.info? 46).map (fun i => (i.zero, i.size, i.bytes)) = some (some (.agg zerosR), 6, 72) := by kernel_rfl
def rsame (x t : RT) : Bool := t.kind == x.kind && t.elem == x.elem && t.len == x.len && x.kind != 5
def putN (rs : List RT) (x : RT) : Int := if rs.findIdx (rsame x) < rs.length then (rs.findIdx (rsame x) : Int) else if 400 ≤ rs.length then 0 else rs.length
def putX (rs : List RT) (x : RT) : Int := if rs.findIdx (rsame x) < rs.length then 0 else if 400 ≤ rs.length then 8 else 0
def putL (rs : List RT) (x : RT) : List RT := if rs.findIdx (rsame x) < rs.length then rs else if 400 ≤ rs.length then rs else rs ++ [x]
/-- What a making answers: a number, a table, an error. -/
def MadeP (w : World) (a0 : Option Addr) (rs0 : List RT) (N E : Int) (rs : List RT) (r : Ending) (w' : World) : Prop :=
  ∃ a n c, r = .returned (.agg #[.int .i64 N, .slice a n c, .int .i64 E]) ∧ RAt w' a n rs ∧ Fr (fun _ => False) w w' ∧ ((a = a0 ∧ rs = rs0) ∨ ∃ g, a = some ⟨g, 0, none⟩ ∧ w.heap.size ≤ g ∧ g < w'.heap.size)
theorem made_lift {w W w2 w3 : World} {a0 : Option Addr} {n0 : Nat} {rs0 : List RT} {N E : Int} {rs : List RT} {a : Option Addr} {n c : Nat} (h0 : RAt w a0 n0 rs0) (hW : w.heap.size < W.heap.size) (hr : RAt w2 a n rs) (hd : (a = a0 ∧ rs = rs0) ∨ ∃ g, a = some ⟨g, 0, none⟩ ∧ W.heap.size ≤ g ∧ g < w2.heap.size)
    (h3 : Fr (fun j => j = w.heap.size) w2 w3) (hf : Fr (fun _ => False) w w3) : MadeP w a0 rs0 N E rs (.returned (.agg #[.int .i64 N, .slice a n c, .int .i64 E])) w3 := by
  refine ⟨a, n, c, rfl, hr.kept h3 (fun g o e hne hh => ?_), hf, hd.imp id (fun ⟨g, e, hg, hg2⟩ => ⟨g, e, by omega, Nat.lt_of_lt_of_le hg2 h3.size⟩)⟩
  rcases hd with ⟨e1, e2⟩ | ⟨g', e1, hg, _⟩
  · subst e1 e2
    obtain ⟨g', e3, hc⟩ := h0.2 0 (by omega)
    rw [e] at e3
    injection e3 with e3
    injection e3 with e3
    have h1 : ∃ x, (rs.getD 0 rt0).vals[0]? = some x := ⟨_, rfl⟩
    obtain ⟨x, h1⟩ := h1
    have := World.block_lt_of_cell? w _ ((hc 0 (by decide)).trans h1)
    simp at this
    omega
  · rw [e] at e1
    injection e1 with e1
    injection e1 with e1
    omega
theorem made_same {w w3 : World} {a0 : Option Addr} {n0 c : Nat} {rs0 : List RT} {N E : Int} (h0 : RAt w a0 n0 rs0) (hf : Fr (fun _ => False) w w3) : MadeP w a0 rs0 N E rs0 (.returned (.agg #[.int .i64 N, .slice a0 n0 c, .int .i64 E])) w3 :=
  ⟨a0, n0, c, rfl, h0.quiet hf, hf, .inl ⟨rfl, rfl⟩⟩
theorem putP_yes {w w' : World} {a : Option Addr} {n c k : Nat} {rs : List RT} {x : RT} (h : RAt w a n rs) (hk : k < rs.length) (h1 : rsame x (rs.getD k rt0) = true) (hn : ∀ j, j < k → rsame x (rs.getD j rt0) = false) (hf : Fr (fun _ => False) w w') :
    MadeP w a rs (putN rs x) (putX rs x) (putL rs x) (.returned (.agg #[.int .i64 k, .slice a n c, .int .i64 0])) w' := by
  unfold putN putX putL; rw [rt_at hk h1 hn, if_pos hk, if_pos hk, if_pos hk]; exact made_same h hf
theorem putP_full {w w' : World} {a : Option Addr} {n c : Nat} {rs : List RT} {x : RT} (h : RAt w a n rs) (hn : ∀ j, j < rs.length → rsame x (rs.getD j rt0) = false) (h4 : 400 ≤ n) (hf : Fr (fun _ => False) w w') :
    MadeP w a rs (putN rs x) (putX rs x) (putL rs x) (.returned (.agg #[.int .i64 0, .slice a n c, .int .i64 8])) w' := by
  have := h.1
  unfold putN putX putL; rw [rt_no hn, if_neg (Nat.lt_irrefl _), if_neg (Nat.lt_irrefl _), if_neg (Nat.lt_irrefl _), if_pos (by omega), if_pos (by omega), if_pos (by omega)]; exact made_same h hf
theorem putP_new {w w' : World} {a : Option Addr} {n c g base : Nat} {rs : List RT} {x : RT} (h : RAt w a n rs) (hn : ∀ j, j < rs.length → rsame x (rs.getD j rt0) = false) (h4 : n < 400) (hf : Fr (fun _ => False) w w') (hb : w.heap.size ≤ base)
    (ho : w'.ownsRow base 46 6 (.slice (some ⟨g, 0, none⟩) (n + 1) c) (n + 1) ((rs ++ [x]).flatMap RT.vals)) :
    MadeP w a rs (putN rs x) (putX rs x) (putL rs x) (.returned (.agg #[.int .i64 n, .slice (some ⟨g, 0, none⟩) (n + 1) c, .int .i64 0])) w' := by
  have := h.1
  unfold putN putX putL; rw [rt_no hn, if_neg (Nat.lt_irrefl _), if_neg (Nat.lt_irrefl _), if_neg (Nat.lt_irrefl _), if_neg (by omega), if_neg (by omega), if_neg (by omega)]
  exact ⟨_, _, c, by rw [this], RAt.of_own ho (by simp; omega), hf, .inr ⟨g, rfl, by have := (ho.lt g rfl).1; omega, (ho.lt g rfl).2⟩⟩
/-- The boxes of a put: the type's, and the result's. -/
structure PutW (w W : World) (x : RT) : Prop where
  fr : Fr (fun _ => False) w W
  sz : w.heap.size + 2 ≤ W.heap.size
  z0 : W.cell? ⟨w.heap.size, 0, none⟩ = some (.int .i64 x.kind)
  z1 : W.cell? ⟨w.heap.size, 1, none⟩ = some (.int .i64 x.elem)
  z2 : W.cell? ⟨w.heap.size, 2, none⟩ = some (.int .i64 x.len)
  z3 : W.cell? ⟨w.heap.size, 3, none⟩ = some (.string x.name)
  z4 : W.cell? ⟨w.heap.size, 4, none⟩ = some (.slice x.fa x.fn x.fc)
  z5 : W.cell? ⟨w.heap.size, 5, none⟩ = some (.bool x.opn)
  r : ∀ j, j < 3 → (∃ y, W.cell? ⟨w.heap.size + 1, j, none⟩ = some y) ∧ W.frozen? ⟨w.heap.size + 1, j, none⟩ = false
theorem PutW.kept {w W W' : World} {x : RT} {F : Nat → Prop} (h : PutW w W x) (hf : Fr F W W') (hn : ∀ k, k < w.heap.size + 2 → ¬ F k) : PutW w W' x :=
  ⟨h.fr.trans' hf (fun j hj e => hn j (by omega) e), Nat.le_trans h.sz hf.size, hf.cell h.z0 (hn _ (by simp)), hf.cell h.z1 (hn _ (by simp)), hf.cell h.z2 (hn _ (by simp)), hf.cell h.z3 (hn _ (by simp)), hf.cell h.z4 (hn _ (by simp)), hf.cell h.z5 (hn _ (by simp)),
    fun j hj => ⟨(h.r j hj).1.elim fun y hy => ⟨y, hf.cell hy (hn _ (by simp))⟩, (h.r j hj).1.elim fun y hy => (hf.frozen hy (hn _ (by simp))).trans (h.r j hj).2⟩⟩
theorem PutW.start (w : World) (x : RT) : PutW w ((w.alloc (.cells #[.int .i64 x.kind, .int .i64 x.elem, .int .i64 x.len, .string x.name, .slice x.fa x.fn x.fc, .bool x.opn] 46)).alloc (.cells #[.int .i64 0, .slice none 0 0, .int .i64 0] 31)) x := by
  obtain ⟨w1, h1⟩ : ∃ w1, w1 = w.alloc (.cells #[.int .i64 x.kind, .int .i64 x.elem, .int .i64 x.len, .string x.name, .slice x.fa x.fn x.fc, .bool x.opn] 46) := ⟨_, rfl⟩
  have f1 : Fr (fun _ => False) w w1 := by rw [h1]; exact fr_al (Fr.refl _ _) _
  have s1 : w1.heap.size = w.heap.size + 1 := by rw [h1]; simp
  have f2 := fr_al (Fr.refl (fun _ => False) w1) (.cells #[.int .i64 0, .slice none 0 0, .int .i64 0] 31)
  have k : ∀ j y, (#[.int .i64 x.kind, .int .i64 x.elem, .int .i64 x.len, .string x.name, .slice x.fa x.fn x.fc, .bool x.opn] : Array Value)[j]? = some y → (w1.alloc (.cells #[.int .i64 0, .slice none 0 0, .int .i64 0] 31)).cell? ⟨w.heap.size, j, none⟩ = some y := fun j y hy => f2.cell (by rw [h1]; exact fcell w _ _ j _ hy) id
  rw [← h1]
  refine ⟨f1.trans f2, by simp; omega, k 0 _ rfl, k 1 _ rfl, k 2 _ rfl, k 3 _ rfl, k 4 _ rfl, k 5 _ rfl, fun j hj => ?_⟩
  rw [← s1]
  exact ⟨⟨_, fcell w1 _ _ j _ (Array.getElem?_eq_getElem (by simpa using hj))⟩, World.frozen?_alloc_new _ _ _ _⟩
end Go.Proofs.Ytlhkhgkgjdfcgaa
