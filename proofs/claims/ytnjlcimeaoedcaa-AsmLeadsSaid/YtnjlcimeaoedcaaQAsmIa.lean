/-
  Items (layer 5): the contract of the law's Ref.
-/
import Derived.Test.YtnjlcimeaoedcaaQAsmZ
import Derived.Deep.RegionLaw
import Derived.Maps.AppendAt
namespace Go.Proofs.Ytnjlcimeaoedcaa
open Go.RowKit
set_option linter.unusedVariables false
set_option linter.unusedSimpArgs false
def vals7 (l : List It) : List Value := l.flatMap It.vals
theorem vals7_snoc (l : List It) (x : It) : vals7 (l ++ [x]) = vals7 l ++ x.vals := by simp [vals7]
theorem take_snocI {l : List It} {k : Nat} (h : k < l.length) : l.take (k + 1) = l.take k ++ [l.getD k it0] := by
  rw [List.take_succ_eq_append_getElem h, List.getD_eq_getElem?_getD, List.getElem?_eq_getElem h]; rfl
/-- The document's items, so far. -/
structure RfR (w wr : World) (v : Value) (l : List It) : Prop where
  row : wr.ownsRow w.heap.size 70 7 v l.length (vals7 l)
  fr : Fr (fun _ => False) w wr
theorem RfR.snoc {w wr w1 w2 : World} {v v' : Value} {l : List It} {x : It} (h : RfR w wr v l) (hf : Fr (fun _ => False) wr w1) (hv : w2.ownsRow w.heap.size 70 7 v' (l.length + 1) (vals7 l ++ x.vals)) (hg : w1.grownBy w2 v.ownBlock) : RfR w w2 v' (l ++ [x]) := by
  refine ⟨by rw [vals7_snoc]; simpa using hv, ?_⟩
  refine (h.fr.trans hf).trans' (Fr.of_by hg) (fun j hj e => ?_)
  have := (World.ownsRow.lt h.row j e).1
  omega
/-- What Ref leaves. -/
def RefP (l : List It) (w : World) (e : Ending) (w' : World) : Prop := ∃ a c, e = .returned (.slice a l.length c) ∧ ItAt w'.heap.size w' a l ∧ Fr (fun _ => False) w w'
theorem refP_of {l : List It} {w w' : World} {v : Value} (h : RfR w w' v l) : RefP l w (.returned v) w' := by
  have hc := h.row
  rcases h.row.2 with ⟨rfl, hn⟩ | ⟨g, cap, cur, rfl, hb, hg, _⟩
  · exact ⟨none, 0, by rw [hn], fun k hk => by omega, h.fr⟩
  · refine ⟨some ⟨g, 0, none⟩, cap, rfl, fun k hk => ⟨g, 0, rfl, (Array.getElem?_eq_some_iff.1 hg).1, fun j hj => ?_⟩, h.fr⟩
    have h1 := itvals_get l k hk j hj
    have h2 : ∃ x, (l.getD k it0).vals[j]? = some x := ⟨_, List.getElem?_eq_getElem (by simpa [It.vals] using hj)⟩
    obtain ⟨x, h2⟩ := h2
    rw [h2] at h1 ⊢
    have := World.ownsRow.cells hc (g := g) rfl (k * 7 + j) x h1
    rw [Addr.add_lit] at this
    exact this
theorem infoRi : (Try.prog.info? 70).map (fun i => (i.zero, i.size, i.bytes)) = some (some (.agg #[.int .i64 0, .int .i64 0, .int .i64 0, .int .i64 0, .int .i64 0, .int .i64 0, .int .i64 0]), 7, 56) := by kernel_rfl
theorem seven_cell (w : World) (t : TypeId) (x : It) : ∀ (j : Nat) (u : Value), x.vals[j]? = some u → (w.alloc (.cells #[.int .i64 x.k, .int .i64 x.op, .int .i64 x.rd, .int .i64 x.r1, .int .i64 x.r2, .int .i64 x.imm, .int .i64 x.lab] t)).cell? ((⟨w.heap.size, 0, none⟩ : Addr).add j) = some u := by
  intro j u h
  rw [Addr.add_lit]
  simp only [Nat.zero_add]
  exact fcell w _ t j u (by simpa [It.vals] using h)
theorem fr_ald (w : World) (o : Obj) : Fr (fun _ => False) w (w.alloc o).drew := ⟨rfl, rfl, Nat.le_of_lt (alloc_lt w o), fun k hk _ => heap_alloc_old w o hk⟩
theorem step_own {P : Program} {ops : Array Oper} {o : Oper} {a : Act} {w : World} {K : Act → World → Prop} {Q : Exit → Act → World → Prop} {E : Prop}
    (hgd : o.guard = none) (s x : Operand) (t : TypeId) (ho : o.op = .call { callee := .builtin .append, args := #[s, x], argTypes := #[t, t] })
    (base : Nat) (e : TypeId) (i : TypeInfo) (z : Value) (size bytes : Nat) (ht : P.underlying t = some (.slice e)) (hi : P.info? e = some i) (hz : i.zero = some z)
    (hsize : i.size = size) (hby : i.bytes = bytes) (hzs : z.cells.size = size) (hsz : 0 < size)
    (v : Value) (n : Nat) (xs : List Value) (hs : a.eval s = v) (hown : w.ownsRow base e size v n xs)
    (ad : Addr) (m c : Nat) (news : List Value) (hx : a.eval x = .slice (some ad) m c) (hl : news.length = m * size) (hnews : ∀ j u, news[j]? = some u → w.cell? (ad.add j) = some u) (h1 : ∀ u ∈ news, u.oneCell' = true)
    (h63 : n + m ≤ maxLen) (hbytes : (n + m) * bytes ≤ 140737488355328) (hbase : base ≤ w.heap.size)
    (h : ∀ v' w', w'.ownsRow base e size v' (n + m) (xs ++ news) → w.grownBy w' v.ownBlock → (v' = .slice none 0 0 ↔ v = .slice none 0 0 ∧ m = 0) → K (a.put o.dst v') w') :
    if Region.wanted o (yielded ops a.tmps) = true then Oper.wp P o a w K Q else E := by
  have hw : Region.wanted o (yielded ops a.tmps) = true := by simp [Region.wanted, hgd]
  rw [if_pos hw]
  obtain ⟨v', w', hr, h2, h3, h4⟩ := run_append_own (P := P) w base t o.type e i z size bytes ht hi hz hsize hby hzs hsz v n xs hown ad m c news hl hnews h1 h63 hbytes hbase
  unfold Oper.wp
  simp [execOp, ho, resolve, invoke, builtin, hs, hx, hr, Result.andThen]
  exact h v' w' h2 h3 h4
set_option maxRecDepth 100000 in
set_option maxHeartbeats 8000000 in
theorem c9 (a : Option Addr) (n c : Nat) (l : List It) (hn : n = l.length) (hl : n ≤ 100000) (w : World) (hat : ItAt w.heap.size w a l) :
    Calls Try.prog 9 #[.slice a n c] w (RefP l w) := by
  obtain ⟨i0, hi, hz0, hz1, hz2⟩ := info_parts infoRi
  have HI := Lib.hid hi
  have HZ0 := Lib.hid hz0
  have HZ1 := Lib.hid hz1
  have HZ2 := Lib.hid hz2
  have HA := Lib.hid hat
  have HN := Lib.hid hn
  clear hat hi hz0 hz1 hz2 hn
  have H0 : Hid (RfR w w (.slice none 0 0) (l.take 0)) := Lib.hid ⟨World.ownsRow_nil _ _ _ _, Fr.refl _ _⟩
  go_enter Try.func9, Try.ntmps9
  go_wp2
  go_loopw [3, 4] (fun v i wr => ∃ k : Nat, k ≤ n ∧ i = .int .i64 k ∧ Hid (RfR w wr v (l.take k))) (fun _ i _ => n - (intOf i).toNat)
  case atStart => exact ⟨0, by omega, rfl, H0⟩
  case round =>
    obtain ⟨k, hk, rfl, HW⟩ := hrel
    clear H0
    by_cases hlt : k < n
    · obtain ⟨x, hx⟩ : ∃ x, l.getD k it0 = x := ⟨_, rfl⟩
      obtain ⟨g, o, rfl, hg, c0, c1, c2, c3, c4, c5, c6⟩ := HA.out.get HW.out.fr (fun _ h => h.elim) k (by rw [← HN.out]; exact hlt) x hx
      have HSN : Hid (l.take (k + 1) = l.take k ++ [x]) := Lib.hid (by rw [← hx]; exact take_snocI (by rw [← HN.out]; exact hlt))
      have h1 : (k : Int) < n := by omega
      have h2 : (0 : Int) ≤ k := by omega
      have hsz := HW.out.fr.size
      have htl : (l.take k).length ≤ 100000 := by have := List.length_take_le k l; omega
      clear hx
      go_wp2_with fail
      have hgs : g < wr.heap.size := World.block_lt_of_cell? wr _ c0
      go_region_law (refine step_own (by rfl) _ _ 33 rfl w.heap.size 70 i0 (.agg #[.int .i64 0, .int .i64 0, .int .i64 0, .int .i64 0, .int .i64 0, .int .i64 0, .int .i64 0]) 7 56 Try.underlying33 HI.out HZ0.out HZ1.out HZ2.out rfl (by decide) _ (l.take k).length (vals7 (l.take k)) rfl (by exact HW.out.row.alloc _) ⟨wr.heap.size, 0, none⟩ 1 1 x.vals rfl rfl (seven_cell wr 70 x) (by simp [It.vals, Value.oneCell']) (by unfold maxLen; omega) (by omega) (by simp; omega) ?_; intro v' w3 hown3 hg3 _; have HR3 := Lib.hid (RfR.snoc HW.out (fr_ald _ _) hown3 hg3); clear hown3 hg3)
      all_goals go_wp2
      all_goals go_roundw
      all_goals first
        | exact ⟨k + 1, by omega, by go_num, by rw [HSN.out]; exact HR3⟩
        | (simp [intOf]; omega)
    · obtain rfl : n = k := by omega
      go_wp2
      go_ret
      exact refP_of (by have := HW.out; rw [HN.out, List.take_length] at this; exact this)
end Go.Proofs.Ytnjlcimeaoedcaa
