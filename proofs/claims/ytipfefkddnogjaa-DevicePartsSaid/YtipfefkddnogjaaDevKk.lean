/-
  The contracts of New and Log over worlds, of Few and of the page's example (layer 3).
-/
import Derived.Test.YtipfefkddnogjaaDevJj
import Derived.Test.YtipfefkddnogjaaDevFf
namespace Go.Proofs.Ytipfefkddnogjaa
open Go.RowKit
set_option linter.unusedVariables false
set_option linter.unusedSimpArgs false
/-- What New leaves. -/
def Made (ws ds ins : List Int) (w : World) (e : Ending) (w' : World) : Prop :=
  ∃ L, e = .returned (.tuple #[.pointer (some ⟨L.b, 0, none⟩), .int .i64 0]) ∧ L.code = ws.map decM ∧ L.dn = ds.length ∧ L.ins = ins ∧ At w.heap.size w' L (.slice none 0 0) (initM ds) ∧ Wf w.heap.size L (.slice none 0 0) ∧
    Fr (fun _ => False) w w' ∧ w.heap.size ≤ L.b ∧ w.heap.size ≤ L.db ∧ w.heap.size ≤ L.cb ∧ (∀ a, L.ia = some a → w.heap.size ≤ a.block)
def Bytes (l : List Int) : Prop := ∀ k, k < l.length → 0 ≤ l.getD k 0 ∧ l.getD k 0 ≤ 255
def Words (l : List Int) : Prop := ∀ k, k < l.length → 0 ≤ l.getD k 0 ∧ l.getD k 0 ≤ 4294967295
theorem new_at {v0 v1 v2 : Value} {ws ds ins : List Int} {w : World} (h0 : ListAt .u32 w v0 ws) (h1 : ListAt .u8 w v1 ds) (h2 : ListAt .u32 w v2 ins) (b0 : Words ws) (b1 : Bytes ds) (b2 : Words ins) (il : ins.length ≤ 100000) (hm : mayB ws.length ds.length = true) :
    Calls Try.prog 20 #[v0, v1, v2] w (Made ws ds ins w) := by
  have hmay : 1 ≤ (ws.length : Int) ∧ (ws.length : Int) ≤ 32768 ∧ 4 ≤ (ds.length : Int) ∧ (ds.length : Int) ≤ 65536 ∧ (ds.length : Int) % 4 = 0 := by
    have hb := hm
    unfold mayB at hb
    split at hb; · cases hb
    split at hb; · cases hb
    split at hb; · cases hb
    split at hb; · cases hb
    have := beq_iff_eq.1 hb
    omega
  rcases h0 with ⟨_, rfl⟩ | ⟨a0, c0, rfl, h0⟩
  · simp at hmay
  rcases h1 with ⟨_, rfl⟩ | ⟨a1, c1, rfl, h1⟩
  · simp at hmay
  have hw : WordsAt w (some a0) ws := fun k hk => by
    obtain ⟨b, o, sp⟩ := a0
    obtain ⟨e, hc⟩ := h0 k hk
    simp only at e hc
    subst e
    exact ⟨b, o, rfl, hc⟩
  refine (c20_yes (some a0) ws c0 (some a1) ds.length c1 v2 w (by omega) (by omega) (by omega) (by omega) hmay.2.2.2.2 (DataOk ds) (InsOk ins) (Lib.hid (c56 (some a0) ws c0 (by omega) (by omega) b0 w hw)) (Lib.hid fun w1 hf => ?_) (Lib.hid fun w1 dv w2 hf hd => ?_)).mono ?_
  · refine (c57 a1 ds.length c1 (ds.map (Value.int .u8)) (by simp) (by omega) w1 (list_news (fun i hi => ⟨(h1 i hi).1, hf.cell (h1 i hi).2 id⟩)) ones).mono ?_
    rintro e w' ⟨v', rfl, hne, hown, hg⟩
    obtain ⟨g, c, rfl, _, _⟩ := own_form hown hne
    exact ⟨_, _, _, rfl, hne, hown, hg⟩
  · have hf2 : Fr (fun _ => False) w w2 := hf.trans (Fr.of_by0 hd.2.2)
    rcases h2 with ⟨rfl, rfl⟩ | ⟨a2, c2, rfl, h2⟩
    · refine (c58_nil w2).mono ?_
      rintro e w' ⟨rfl, rfl⟩
      exact ⟨_, _, _, rfl, .inl ⟨rfl, rfl, rfl⟩⟩
    · refine (c58 a2 ins.length c2 (ins.map (Value.int .u32)) (by simp) (by omega) w2 (list_news (fun i hi => ⟨(h2 i hi).1, hf2.cell (h2 i hi).2 id⟩)) ones).mono ?_
      rintro e w' ⟨v', rfl, hne, hown, hg⟩
      obtain ⟨g, c, rfl, _, _⟩ := own_form hown hne
      exact ⟨_, _, _, rfl, .inr ⟨hne, hown, hg⟩⟩
  · rintro e w' ⟨g, dv, iv, w1, w2, w3, rfl, q1, q2, q3, rfl⟩
    obtain ⟨L, e1, e2, e3, e4, r⟩ := new_done hm (fun k hk => (b0 k hk).1) b1 b2 il q1 q2 q3
    exact ⟨L, by rw [e1], e2, e3, e4, r⟩
theorem c25_ex (b : Nat) (lv : Value) (S : Value → World → Prop) (w : World) (hx : w.cell? ⟨b, 38, none⟩ = some lv) (H : Hid (Calls Try.prog 61 #[lv] w fun e w' => ∃ v, e = .returned v ∧ S v w')) :
    Calls Try.prog 25 #[.pointer (some ⟨b, 0, none⟩)] w fun e w' => ∃ v, e = .returned v ∧ S v w' := by
  go_enter Try.func25, Try.ntmps25
  go_wp2_with (go_at_call 61; (with_reducible refine H.out.mono ?_); rintro e w1 ⟨v, rfl, h1⟩; have H1 := Lib.hid h1; clear h1)
  go_ret
  exact ⟨v, rfl, H1.out⟩
/-- A new slice of records. -/
def LogIs (w : World) (l : List (Int × Int)) (v : Value) (w' : World) : Prop :=
  ∃ a c, v = .slice a l.length c ∧ Fr (fun _ => False) w w' ∧ (∀ k, k < l.length → ∃ b o, a = some ⟨b, o, none⟩ ∧ w.heap.size ≤ b ∧ w'.cell? ⟨b, o + k * 2, none⟩ = some (.int .u32 (l.getD k (0, 0)).1) ∧ w'.cell? ⟨b, o + k * 2 + 1, none⟩ = some (.int .u32 (l.getD k (0, 0)).2))
theorem recCells_get (l : List (Int × Int)) : ∀ k, k < l.length → (recCells l)[k * 2]? = some (.int .u32 (l.getD k (0, 0)).1) ∧ (recCells l)[k * 2 + 1]? = some (.int .u32 (l.getD k (0, 0)).2) := by
  induction l with
  | nil => intro k hk; simp at hk
  | cons a t ih =>
    intro k hk
    cases k with
    | zero => exact ⟨rfl, rfl⟩
    | succ k =>
      have := ih k (by simpa using hk)
      have e1 : (k + 1) * 2 = k * 2 + 1 + 1 := by omega
      have e2 : recCells (a :: t) = .int .u32 a.1 :: .int .u32 a.2 :: recCells t := by unfold recCells; simp
      rw [e1, e2]
      simpa using this
theorem recCells_len (l : List (Int × Int)) : (recCells l).length = l.length * 2 := by
  induction l with
  | nil => rfl
  | cons a t ih =>
    have e2 : recCells (a :: t) = .int .u32 a.1 :: .int .u32 a.2 :: recCells t := by unfold recCells; simp
    rw [e2]; simp [ih]; omega
theorem recCells_one (l : List (Int × Int)) : ∀ u ∈ recCells l, u.oneCell' = true := by
  intro u hu
  unfold recCells at hu
  obtain ⟨x, hx, hu⟩ := List.mem_flatten.1 hu
  obtain ⟨r, _, rfl⟩ := List.mem_map.1 hx
  simp only [List.mem_cons, List.not_mem_nil, or_false] at hu
  rcases hu with rfl | rfl <;> rfl
theorem own_addr {w : World} {base e size n : Nat} {v : Value} {xs : List Value} (h : w.ownsRow base e size v n xs) {g c : Nat} (hv : v = .slice (some ⟨g, 0, none⟩) n c) : ∀ j u, xs[j]? = some u → w.cell? ((⟨g, 0, none⟩ : Addr).add j) = some u :=
  h.cells (by rw [hv]; rfl)
theorem log_at {base : Nat} {L : Lay} {lv : Value} {s : MSt} {w : World} (h : At base w L lv s) (hw : Wf base L lv) (hl : s.log.length ≤ 1000000) :
    Calls Try.prog 25 #[.pointer (some ⟨L.b, 0, none⟩)] w fun e w' => ∃ v, e = .returned v ∧ LogIs w s.log v w' := by
  have ho := h.own
  by_cases hv : lv = .slice none 0 0
  · have h0 : s.log.length = 0 := by
      rcases ho.2 with ⟨_, e⟩ | ⟨g, c, cur, e, _⟩
      · exact e
      · rw [hv] at e; cases e
    have hx := h.logv
    rw [hv] at hx
    refine (c25_ex L.b _ (fun v w' => v = .slice none 0 0 ∧ w = w') w hx (Lib.hid ((c61_nil w).mono fun e w' ⟨a, b⟩ => ⟨_, a, rfl, b⟩))).mono ?_
    rintro e w' ⟨v, rfl, rfl, rfl⟩
    exact ⟨_, rfl, none, 0, by rw [h0], Fr.refl _ _, fun k hk => by omega⟩
  · obtain ⟨g, c, e, _, _⟩ := own_form ho hv
    have hx := h.logv
    have hC := c61 ⟨g, 0, none⟩ s.log.length c (recCells s.log) (recCells_len _) hl w (own_addr ho e) (recCells_one _)
    rw [e] at hx
    refine (c25_ex L.b _ (fun v w' => v ≠ .slice none 0 0 ∧ w'.ownsRow w.heap.size 66 2 v s.log.length (recCells s.log) ∧ w.grownBy w' none) w hx (Lib.hid hC)).mono ?_
    rintro e w1 ⟨v', rfl, h1⟩
    obtain ⟨hne, hown, hg⟩ := h1
    obtain ⟨g', c', e', q1, _⟩ := own_form hown hne
    refine ⟨_, rfl, some ⟨g', 0, none⟩, c', e', Fr.of_by0 hg, fun k hk => ⟨g', 0, rfl, q1, ?_⟩⟩
    have hcs := hown
    rw [e'] at hcs
    have hl2 := recCells_len s.log
    have c1 := hcs.cellAt (k * 2) (by omega)
    have c2 := hcs.cellAt (k * 2 + 1) (by omega)
    obtain ⟨r1, r2⟩ := recCells_get s.log k hk
    rw [Nat.zero_add, c1, c2, r1, r2]
    exact ⟨rfl, rfl⟩
end Go.Proofs.Ytipfefkddnogjaa
