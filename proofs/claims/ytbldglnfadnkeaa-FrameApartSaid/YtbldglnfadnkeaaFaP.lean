/-
  Runs (layer 14): where slots lie, the program's and the document's own.
-/
import Derived.Test.YtbldglnfadnkeaaShift
import Derived.Test.YtbldglnfadnkeaaFr
import Derived.LoopTactic
import Derived.Laws.AppendOwn
namespace Go.Proofs.Ytbldglnfadnkeaa
open Go.RowKit
set_option linter.unusedVariables false
set_option linter.unusedSimpArgs false
theorem infoI : (Try.prog.info? 3).map (fun i => (i.zero, i.size, i.bytes)) = some (some (.int .i64 0), 1, 8) := by kernel_rfl
def ints (l : List Int) : List Value := l.map (Value.int .i64)
theorem ints_snoc (l : List Int) (x : Int) : ints (l ++ [x]) = ints l ++ [.int .i64 x] := by simp [ints]
theorem one_cell (w : World) (t : TypeId) (x : Value) : ∀ (j : Nat) (u : Value), [x][j]? = some u → (w.alloc (.cells #[x] t)).cell? ((⟨w.heap.size, 0, none⟩ : Addr).add j) = some u := by
  intro j u h
  match j, h with
  | 0, h => rw [Addr.add_lit]; exact fcell w #[x] t 0 u (by simpa using h)
  | n + 1, h => simp at h
/-- Sizes rounded up to four, one behind the other. -/
def up4 (n : Int) : Int := (n + 3) / 4 * 4
def offs (s : List Int) : Nat → Int
  | 0 => 0
  | k + 1 => offs s k + up4 (s.getD k 0)
def Slim (s : List Int) : Prop := ∀ k, k < s.length → 0 ≤ s.getD k 0 ∧ s.getD k 0 ≤ 40000
theorem offs_in {s : List Int} (h : Slim s) (k : Nat) (hk : k ≤ s.length) : 0 ≤ offs s k ∧ offs s k ≤ 40004 * k ∧ offs s k % 4 = 0 := by
  induction k with
  | zero => simp [offs]
  | succ k ih => have := ih (by omega); have := h k (by omega); simp only [offs, up4]; omega
def offL (s : List Int) (k : Nat) : List Int := (List.range k).map (offs s)
theorem offL_len (s : List Int) (k : Nat) : (offL s k).length = k := by simp [offL]
theorem offL_succ (s : List Int) (k : Nat) : offL s (k + 1) = offL s k ++ [offs s k] := by simp [offL, List.range_succ]
theorem offL_get (s : List Int) {k i : Nat} (h : i < k) : (ints (offL s k))[i]? = some (.int .i64 (offs s i)) := by simp [ints, offL, h]
/-- Slots of these sizes lie behind a slice's head. -/
def SlotsAt (w : World) (a : Option Addr) (s : List Int) : Prop := ∀ k, k < s.length → ∃ g o nm al ce, a = some ⟨g, o, none⟩ ∧ w.cell? ⟨g, o + k * 4, none⟩ = some (.string nm) ∧ w.cell? ⟨g, o + k * 4 + 1, none⟩ = some (.int .i64 (s.getD k 0)) ∧ w.cell? ⟨g, o + k * 4 + 2, none⟩ = some (.int .i64 al) ∧ w.cell? ⟨g, o + k * 4 + 3, none⟩ = some (.int .i64 ce)
theorem SlotsAt.fr {w w' : World} {a : Option Addr} {s : List Int} (h : SlotsAt w a s) (hf : Fr (fun _ => False) w w') : SlotsAt w' a s := fun k hk => by
  obtain ⟨g, o, nm, al, ce, e, c0, c1, c2, c3⟩ := h k hk
  exact ⟨g, o, nm, al, ce, e, hf.cell c0 id, hf.cell c1 id, hf.cell c2 id, hf.cell c3 id⟩
/-- What Place leaves. -/
def PlaceP (s : List Int) (w : World) (e : Ending) (w' : World) : Prop := ∃ a c, e = .returned (.tuple #[.slice a s.length c, .int .i64 (offs s s.length)]) ∧ (∀ k, k < s.length → ∃ g, a = some ⟨g, 0, none⟩ ∧ w'.cell? ⟨g, k, none⟩ = some (.int .i64 (offs s k))) ∧ Fr (fun _ => False) w w'
/-- Offsets, so far. -/
structure PlR (w wr : World) (v : Value) (s : List Int) (k : Nat) : Prop where
  row : wr.ownsRow w.heap.size 3 1 v k (ints (offL s k))
  fr : Fr (fun _ => False) w wr
theorem PlR.start (w : World) (s : List Int) : PlR w w (.slice none 0 0) s 0 := ⟨World.ownsRow_nil _ _ _ _, Fr.refl _ _⟩
theorem PlR.keep {w wr w2 : World} {v : Value} {s : List Int} {k : Nat} (h : PlR w wr v s k) (hf : Fr (fun _ => False) wr w2) : PlR w w2 v s k :=
  ⟨hf.owns h.row (fun _ _ => id), h.fr.trans hf⟩
theorem PlR.snoc {w wr w1 w2 : World} {v v' : Value} {s : List Int} {k : Nat} (h : PlR w wr v s k) (hf : Fr (fun _ => False) wr w1) (hv : w2.ownsRow w.heap.size 3 1 v' (k + 1) (ints (offL s k) ++ [.int .i64 (offs s k)])) (hg : w1.grownBy w2 v.ownBlock) : PlR w w2 v' s (k + 1) := by
  refine ⟨by rw [offL_succ, ints_snoc]; exact hv, ?_⟩
  refine (h.fr.trans hf).trans' (Fr.of_by hg) (fun j hj e => ?_)
  have := (World.ownsRow.lt h.row j e).1
  omega
theorem PlR.box {w wr w3 : World} {v : Value} {s : List Int} {k : Nat} (h : PlR w wr v s k) {cs : Array Value} {t : TypeId} {o : Obj} (hg : ((wr.alloc (.cells cs t)).alloc o).grownBy w3 v.ownBlock) (j : Nat) (y : Value) (hy : cs[j]? = some y) : w3.cell? ⟨wr.heap.size, j, none⟩ = some y := by
  refine (Fr.of_by hg).cell ((fr_al (Fr.refl (fun _ => False) _) _).cell (fcell wr cs t j y hy) id) (fun e => ?_)
  have := (World.ownsRow.lt h.row _ e).2
  simp at this
theorem PlR.old {w wr w3 : World} {v : Value} {s : List Int} {k g o : Nat} (h : PlR w wr v s k) {ob : Obj} {x y : Value} (hg : (wr.alloc ob).grownBy w3 v.ownBlock) (c : wr.cell? ⟨g, o, none⟩ = some x) (c0 : w.cell? ⟨g, o, none⟩ = some y) : w3.cell? ⟨g, o, none⟩ = some x := by
  refine (Fr.of_by hg).cell ((fr_al (Fr.refl (fun _ => False) _) _).cell c id) (fun e => ?_)
  have h1 : w.heap.size ≤ g := (World.ownsRow.lt h.row _ e).1
  have h2 : g < w.heap.size := World.block_lt_of_cell? w _ c0
  omega
theorem placeP_of {s : List Int} {w w' : World} {v : Value} (h : PlR w w' v s s.length) : PlaceP s w (.returned (.tuple #[v, .int .i64 (offs s s.length)])) w' := by
  have hc := h.row
  rcases h.row.2 with ⟨rfl, hn⟩ | ⟨g, cap, cur, rfl, hb, hg, _⟩
  · have hz : s.length = 0 := by simpa [ints, offL] using hn
    exact ⟨none, 0, by rw [hz], fun k hk => by omega, h.fr⟩
  · refine ⟨some ⟨g, 0, none⟩, cap, rfl, fun k hk => ⟨g, rfl, ?_⟩, h.fr⟩
    have := World.ownsRow.cells hc (g := g) rfl k _ (offL_get s hk)
    rw [Addr.add_lit] at this
    simpa using this
set_option maxRecDepth 100000 in
set_option maxHeartbeats 4000000 in
theorem c23 (n : Int) (h0 : 0 ≤ n) (h1 : n ≤ 4000000) (w : World) : Calls Try.prog 23 #[.int .i64 n] w fun e w' => e = .returned (.int .i64 (up4 n)) ∧ w = w' := by
  go_enter Try.func23, Try.ntmps23
  go_wp2
  go_loop [0] (fun q => ∃ m : Int, q = .int .i64 m ∧ n ≤ m ∧ m ≤ up4 n) (fun q => (up4 n - intOf q).toNat)
  case atStart => exact ⟨n, rfl, Int.le_refl _, by unfold up4; omega⟩
  case round =>
    obtain ⟨m, rfl, l0, l1⟩ := hrel
    unfold up4 at *
    by_cases hz : m % 4 = 0
    · have hb : (m % 4 == 0) = true := by simpa using hz
      have hb' : (m % 4 != 0) = false := by simpa using hz
      have he : Hid (m = (n + 3) / 4 * 4) := Lib.hid (by omega)
      clear hz
      go_wp2
      go_ret
      exact ⟨by rw [he.out]; rfl, rfl⟩
    · have hb : (m % 4 == 0) = false := by simpa using hz
      have hb' : (m % 4 != 0) = true := by simpa using hz
      have l2 : m + 1 ≤ (n + 3) / 4 * 4 := by omega
      clear hz
      go_wp2
      go_round
      case rel => exact ⟨m + 1, rfl, by omega, l2⟩
      case measure => simp [intOf]; omega
set_option maxRecDepth 100000 in
set_option maxHeartbeats 8000000 in
theorem c17 (a : Option Addr) (c : Nat) (s : List Int) (hl : s.length ≤ 400) (hs : Slim s) (w : World) (hat : SlotsAt w a s) :
    Calls Try.prog 17 #[.slice a s.length c] w (PlaceP s w) := by
  obtain ⟨i0, hi, hz0, hz1, hz2⟩ := info_parts infoI
  have HI := Lib.hid hi
  have HZ0 := Lib.hid hz0
  have HZ1 := Lib.hid hz1
  have HZ2 := Lib.hid hz2
  clear hi hz0 hz1 hz2
  have HA := Lib.hid hat
  have HS := Lib.hid hs
  clear hat hs
  obtain ⟨n, hn⟩ : ∃ n, s.length = n := ⟨_, rfl⟩
  have HN := Lib.hid hn
  rw [hn] at hl ⊢
  clear hn
  have H0 : Hid (PlR w w (.slice none 0 0) s 0) := Lib.hid (PlR.start w s)
  go_enter Try.func17, Try.ntmps17
  go_wp2
  go_loopw [4, 5, 10] (fun v z q wr => ∃ k : Nat, q = .int .i64 k ∧ k ≤ n ∧ z = .int .i64 (offs s k) ∧ Hid (PlR w wr v s k)) (fun _ _ q _ => n - (intOf q).toNat)
  case atStart => exact ⟨0, rfl, Nat.zero_le _, rfl, H0⟩
  case round =>
    obtain ⟨k, rfl, hk, rfl, HW⟩ := hrel
    clear H0
    obtain ⟨z0, z1, z2⟩ := offs_in HS.out k (by rw [HN.out]; exact hk)
    by_cases hlt : k < n
    · obtain ⟨g, o, nm, al, ce, rfl, c0, c1, c2, c3⟩ := (HA.out.fr HW.out.fr) k (by rw [HN.out]; exact hlt)
      obtain ⟨s0, s1⟩ := HS.out k (by rw [HN.out]; exact hlt)
      have hO : Hid (offs s (k + 1) = offs s k + (s.getD k 0 + 3) / 4 * 4) := Lib.hid rfl
      have hE : Hid (offs s k = offs s k) := Lib.hid rfl
      generalize s.getD k 0 = x at *
      generalize hQ : offs s k = Q at *
      have HQ := Lib.hid hQ
      clear hQ hE z2
      have hm : max 0 (x + 3) = x + 3 := by omega
      have hsz := HW.out.fr.size
      have F1 : Hid (Fr (fun _ => False) wr (wr.alloc (.cells #[.string nm, .int .i64 x, .int .i64 al, .int .i64 ce] 42))) := Lib.hid (fr_al (Fr.refl _ _) _)
      go_wp2_with (at_builtin; refine wpList_append_own _ rfl _ _ 29 rfl w.heap.size 3 i0 (.int .i64 0) 1 8 Try.underlying29 HI.out HZ0.out HZ1.out HZ2.out rfl (by decide) _ k (ints (offL s k)) rfl (by exact ((HW.out.keep F1.out).row.alloc _)) ⟨wr.heap.size + 1, 0, none⟩ 1 1 [.int .i64 Q] rfl rfl (by have := one_cell (wr.alloc (.cells #[.string nm, .int .i64 x, .int .i64 al, .int .i64 ce] 42)) 3 (.int .i64 Q); simpa using this) (by simp [Value.oneCell']) (by unfold maxLen; omega) (by omega) (by simp; omega) ?_; intro v' w3 hown3 hg3 _; have HR3 := Lib.hid (PlR.snoc HW.out (fr_al F1.out _) (by rw [HQ.out]; exact hown3) hg3); have d1 : w3.cell? ⟨wr.heap.size, 1, none⟩ = some (.int .i64 x) := PlR.box HW.out hg3 1 _ rfl; clear hown3 hg3)
      go_roundw
      case rel => exact ⟨k + 1, by go_num, by omega, by rw [hO.out, show x + 3 = x + 4 - 1 by omega], HR3⟩
      case measure => simp [intOf]; omega
    · obtain rfl : n = k := by omega
      go_wp2
      go_ret2
      have h := HW.out
      rw [← HN.out] at h ⊢
      exact placeP_of h
set_option maxRecDepth 100000 in
set_option maxHeartbeats 8000000 in
theorem c19 (a : Option Addr) (c : Nat) (s : List Int) (hl : s.length ≤ 60) (hs : Slim s) (w : World) (hat : SlotsAt w a s) :
    Calls Try.prog 19 #[.slice a s.length c] w (PlaceP s w) := by
  obtain ⟨i0, hi, hz0, hz1, hz2⟩ := info_parts infoI
  have HI := Lib.hid hi
  have HZ0 := Lib.hid hz0
  have HZ1 := Lib.hid hz1
  have HZ2 := Lib.hid hz2
  clear hi hz0 hz1 hz2
  have HA := Lib.hid hat
  have HS := Lib.hid hs
  clear hat hs
  obtain ⟨n, hn⟩ : ∃ n, s.length = n := ⟨_, rfl⟩
  have HN := Lib.hid hn
  rw [hn] at hl ⊢
  clear hn
  have H0 : Hid (PlR w w (.slice none 0 0) s 0) := Lib.hid (PlR.start w s)
  go_enter Try.func19, Try.ntmps19
  go_wp2
  go_loopw [4, 5, 6] (fun v z q wr => ∃ k : Nat, q = .int .i64 k ∧ k ≤ n ∧ z = .int .i64 (offs s k) ∧ Hid (PlR w wr v s k)) (fun _ _ q _ => n - (intOf q).toNat)
  case atStart => exact ⟨0, rfl, Nat.zero_le _, rfl, H0⟩
  case round =>
    obtain ⟨k, rfl, hk, rfl, HW⟩ := hrel
    clear H0
    obtain ⟨z0, z1, z2⟩ := offs_in HS.out k (by rw [HN.out]; exact hk)
    by_cases hlt : k < n
    · obtain ⟨g, o, nm, al, ce, rfl, c0, c1, c2, c3⟩ := (HA.out.fr HW.out.fr) k (by rw [HN.out]; exact hlt)
      obtain ⟨s0, s1⟩ := HS.out k (by rw [HN.out]; exact hlt)
      have hO : Hid (offs s (k + 1) = up4 (offs s k + s.getD k 0)) := Lib.hid (by simp only [offs, up4]; omega)
      have hE : Hid (offs s k = offs s k) := Lib.hid rfl
      generalize hx : s.getD k 0 = x at *
      have HX := Lib.hid hx
      generalize hQ : offs s k = Q at *
      have HQ := Lib.hid hQ
      clear hQ hE z2 hx
      have hsz := HW.out.fr.size
      have C1 := Lib.hid c1
      have HC : Hid (w.cell? ⟨g, o + k * 4 + 1, none⟩ = some (.int .i64 x)) := Lib.hid (by obtain ⟨g', o', _, _, _, e, _, d, _⟩ := HA.out k (by rw [HN.out]; exact hlt); cases e; rw [d, HX.out])
      clear c0 c1 c2 c3
      go_wp2_with (first
        | (at_builtin; refine wpList_append_own _ rfl _ _ 29 rfl w.heap.size 3 i0 (.int .i64 0) 1 8 Try.underlying29 HI.out HZ0.out HZ1.out HZ2.out rfl (by decide) _ k (ints (offL s k)) rfl (by exact (HW.out.row.alloc _)) ⟨wr.heap.size, 0, none⟩ 1 1 [.int .i64 Q] rfl rfl (one_cell wr 3 (.int .i64 Q)) (by simp [Value.oneCell']) (by unfold maxLen; omega) (by omega) (by simp; omega) ?_; intro v' w3 hown3 hg3 _; have HR3 := Lib.hid (PlR.snoc HW.out (fr_al (Fr.refl _ _) _) (by rw [HQ.out]; exact hown3) hg3); have d1 : w3.cell? ⟨g, o + k * 4 + 1, none⟩ = some (.int .i64 x) := PlR.old HW.out hg3 C1.out HC.out; clear hown3 hg3)
        | (go_at_call 23; (with_reducible refine (c23 _ (by omega) (by omega) _).mono ?_); rintro e w4 ⟨rfl, rfl⟩))
      go_roundw
      case rel => exact ⟨k + 1, by go_num, by omega, by rw [hO.out], HR3⟩
      case measure => simp [intOf]; omega
    · obtain rfl : n = k := by omega
      go_wp2
      go_ret2
      have h := HW.out
      rw [← HN.out] at h ⊢
      exact placeP_of h
end Go.Proofs.Ytbldglnfadnkeaa
