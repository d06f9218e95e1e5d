/-
  Listing (layer 6): a line.
-/
import Derived.Test.YtlagdgkjpnocfaaGreatDoorLsB
import Derived.Laws.RangeString
import Derived.Laws.AppendOwn
namespace Go.Proofs.YtlagdgkjpnocfaaGreatDoor
open Go.RowKit
set_option linter.unusedVariables false
set_option linter.unusedSimpArgs false
def itSet (w : World) (g : Nat) (s : ByteArray) (p : Nat) : World := { w with heap := w.heap.setIfInBounds g (.stringIter s p) }
theorem it_at {w : World} {g : Nat} {o : Obj} (h : w.heap[g]? = some o) (s : ByteArray) (p : Nat) : (itSet w g s p).heap[g]? = some (.stringIter s p) := by
  have := (Array.getElem?_eq_some_iff.1 h).1
  simp [itSet, this]
theorem it_fr (w : World) (g : Nat) (s : ByteArray) (p : Nat) : Fr (fun q => q = g) w (itSet w g s p) :=
  ⟨rfl, rfl, by simp [itSet], fun k hk hn => by simp [itSet, Array.getElem?_setIfInBounds]; intro e; exact absurd e.symm hn⟩
theorem nx_more (w : World) (g : Nat) (s : ByteArray) (pos : Nat) (ty : TypeId) (hg : w.heap[g]? = some (.stringIter s pos)) (h : pos < s.size) (ha : (s[pos]'h).toNat < 128) :
    (Instr.next (.pointer (some ⟨g, 0, none⟩)) true ty).run Tryz.prog w = .ok (.tuple #[.bool true, .int .i64 pos, .int .i32 (s[pos]'h).toNat]) (itSet w g s (pos + 1)) := by
  have hlt := (Array.getElem?_eq_some_iff.1 hg).1
  simp only [Instr.next, getObj, setObj, Sem.run_bind, Sem.run, hg, Result.andThen, h, if_true, decode_ascii s pos h ha]
  simp [goInt, Sem.run, hg, itSet]
theorem nx_end (w : World) (g : Nat) (s : ByteArray) (pos : Nat) (ty : TypeId) (hg : w.heap[g]? = some (.stringIter s pos)) (h : ¬ pos < s.size) :
    (Instr.next (.pointer (some ⟨g, 0, none⟩)) true ty).run Tryz.prog w = .ok (.tuple #[.bool false]) w := by
  simp [Instr.next, getObj, Sem.run, hg, h]
theorem rg_str (w : World) (s : ByteArray) : (Instr.range 9 (.string s)).run Tryz.prog w = .ok (.pointer (some ⟨w.heap.size, 0, none⟩)) (w.iter s 0) := run_range_string w 9 s Tryz.underlying9
theorem Fr.of_below' {w w' : World} (h : Below w.heap.size w w') : Fr (fun _ => False) w w' := (Fr.of_below h).mono fun k hk e => by omega
theorem infoStr : (Tryz.prog.info? 9).map (fun i => (i.zero, i.size, i.bytes)) = some (some (.string ⟨#[]⟩), 1, 16) := by kernel_rfl
def StrsAt (B : Nat) (w : World) (v : Value) (xs : List (List UInt8)) : Prop := w.ownsRow B 9 1 v xs.length (xs.map bts)
theorem strs_get {xs : List (List UInt8)} {j : Nat} {x : List UInt8} (h : xs[j]? = some x) : (xs.map bts)[j]? = some (bts x) := by simp [h]
theorem app_str {B : Nat} {w : World} {v : Value} {xs : List (List UInt8)} (x : List UInt8) (ty : TypeId) (h : StrsAt B w v xs) (hB : B ≤ w.heap.size) (hl : xs.length ≤ 1000) : ∃ v' w', (Builtin.append_ #[68, 68] ty #[v, .slice (some ⟨w.heap.size, 0, none⟩) 1 1]).run Tryz.prog (w.alloc (.cells #[bts x] 9)) = .ok v' w' ∧ (StrsAt B w' v' (xs ++ [x]) ∧ (w.alloc (.cells #[bts x] 9)).grownBy w' v.ownBlock) := by
  obtain ⟨i0, hi, hz0, hz1, hz2⟩ := info_partsB infoStr
  have ha := fr_al (Fr.refl (fun _ => False) w) (.cells #[bts x] 9)
  obtain ⟨v', w', hr, h2, h3, h4⟩ := run_append_own (P := Tryz.prog) (w.alloc (.cells #[bts x] 9)) B 68 ty 9 i0 (.string ⟨#[]⟩) 1 16 Tryz.underlying68 hi hz0 hz1 hz2 rfl (by decide) v xs.length (xs.map bts) (ha.owns h (fun _ _ => id)) ⟨w.heap.size, 0, none⟩ 1 1 [bts x] rfl (fun j u hj => by
    match j, hj with
    | 0, hj =>
      simp at hj
      subst hj
      exact fcell w #[bts x] _ 0 _ rfl
    | j + 1, hj => simp at hj) (by simp [Value.oneCell']) (by unfold maxLen; omega) (by omega) (by simp; omega)
  refine ⟨v', w', hr, ?_, h3⟩
  unfold StrsAt
  rw [List.length_append, List.map_append]
  exact h2
theorem StrsAt.fr {B : Nat} {w w' : World} {v : Value} {xs : List (List UInt8)} {F : Nat → Prop} (h : StrsAt B w v xs) (hf : Fr F w w') (hn : ∀ k, v.ownBlock = some k → ¬F k) : StrsAt B w' v xs := hf.owns h hn
/-- The text of a name and its operands. -/
def assT (nmb : List UInt8) (xs : List (List UInt8)) : List UInt8 := nmb ++ [32] ++ Lib.join xs [44, 32]
theorem t_assemble (nmb : List UInt8) (B : Nat) (v : Value) (xs : List (List UInt8)) (w : World) (h : StrsAt B w v xs) (hx : 0 < xs.length) (hxl : xs.length ≤ 1000) (hjl : (Lib.join xs [44, 32]).length ≤ 100000) (hnl : nmb.length ≤ 100000) : Calls Tryz.prog 36 #[bts nmb, v] w fun e w' => e = .returned (bts (assT nmb xs)) ∧ Fr (fun _ => False) w w' := by
  have hc := h
  rcases h.2 with ⟨_, hn⟩ | ⟨g, cap, cur, rfl, hb, hg, hcap, _⟩
  · omega
  have KJ := Tryz.strings_Join g 0 cap (xs.map fun l => ⟨l.toArray⟩) ⟨#[44, 32]⟩ w (fun j x hj => by
      simp only [List.getElem?_map, Option.map_eq_some_iff] at hj
      obtain ⟨l, hl, rfl⟩ := hj
      have := World.ownsRow.cells hc (g := g) rfl j _ (strs_get hl)
      rw [Addr.add_lit] at this
      exact this) (Array.getElem?_eq_some_iff.1 hg).1 (by simp; omega) (by simpa using hcap) (by
      simp only [List.map_map]
      have : (List.map ((fun x : ByteArray => x.data.toList) ∘ fun l : List UInt8 => (⟨l.toArray⟩ : ByteArray)) xs) = xs := by simp [Function.comp_def]
      rw [this]
      simpa using (by omega : (Lib.join xs [44, 32]).length ≤ 140737488355328))
  have hm : (List.map (fun x : ByteArray => x.data.toList) (xs.map fun l : List UInt8 => (⟨l.toArray⟩ : ByteArray))) = xs := by simp [Function.comp_def]
  rw [hm, List.length_map] at KJ
  refine calls_tw Tryz.func36 rfl rfl (Nat.le_of_ble_eq_true rfl) ?_
  refine TW.sreg ?_
  refine WL.op rfl rfl rfl (W.quiet_assign rfl rfl) ?_
  refine WL.nil ?_
  refine TW.sreg ?_
  refine WL.op rfl rfl rfl (W.quiet_move rfl rfl) ?_
  refine WL.op rfl rfl rfl (W.quiet_bin rfl rfl rfl (fun W => bn_cat W _ _ nmb [32] (by simp; omega))) ?_
  refine WL.op rfl rfl rfl (W.quiet_move rfl rfl) ?_
  refine WL.call (hr := KJ) rfl rfl rfl rfl rfl (fun W => cf_join W _) ?_
  rintro e w1 ⟨rfl, hbl⟩
  refine ⟨_, rfl, ?_⟩
  refine WL.op rfl rfl rfl (W.quiet_bin rfl rfl rfl (fun W => bn_cat W _ _ (nmb ++ [32]) (Lib.join xs [44, 32]) (by simp; omega))) ?_
  refine WL.op rfl rfl rfl (W.quiet_assign rfl rfl) ?_
  refine WL.nil ?_
  refine TW.rt ?_
  repeat (with_reducible refine Xw.thn (by simp) ?_)
  refine bodyw_ret rfl rfl ?_
  exact ⟨rfl, Fr.of_below' hbl⟩
end Go.Proofs.YtlagdgkjpnocfaaGreatDoor
