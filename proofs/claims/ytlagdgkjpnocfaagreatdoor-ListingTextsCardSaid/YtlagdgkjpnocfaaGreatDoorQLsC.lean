/-
  Listing (layer 6): a line. Listing (layer 6): the line of an instruction. Listing (layer 6): the hexadecimal digits of a word.
-/
import Derived.Test.YtlagdgkjpnocfaaGreatDoorQLsB
import Derived.Laws.RangeString
import Derived.Laws.AppendOwn
import Derived.Laws.IdiomStrings
import Derived.Laws.Slices
namespace Go.Proofs.YtlagdgkjpnocfaaGreatDoor
open Go.RowKit
set_option linter.unusedVariables false
set_option linter.unusedSimpArgs false
def itSet (w : World) (g : Nat) (s : ByteArray) (p : Nat) : World := { w with heap := w.heap.setIfInBounds g (.stringIter s p) }
theorem it_at {w : World} {g : Nat} {o : Obj} (h : w.heap[g]? = some o) (s : ByteArray) (p : Nat) : (itSet w g s p).heap[g]? = some (.stringIter s p) := by
  have := (Array.getElem?_eq_some_iff.1 h).1
  simp [itSet, this]
theorem it_fr (w : World) (g : Nat) (s : ByteArray) (p : Nat) : Fr (fun q => q = g) w (itSet w g s p) :=
  ⟨rfl, rfl, by simp [itSet], fun k hk hn => by simp [itSet, Array.getElem?_setIfInBounds]; intro e; exact absurd e.symm hn⟩
theorem nx_more (w : World) (g : Nat) (s : ByteArray) (pos : Nat) (ty : TypeId) (hg : w.heap[g]? = some (.stringIter s pos)) (h : pos < s.size) (ha : (s[pos]'h).toNat < 128) :
    (Instr.next (.pointer (some ⟨g, 0, none⟩)) true ty).run Tryz.prog w = .ok (.tuple #[.bool true, .int .i64 pos, .int .i32 (s[pos]'h).toNat]) (itSet w g s (pos + 1)) := by
  have hlt := (Array.getElem?_eq_some_iff.1 hg).1
  simp only [Instr.next, getObj, setObj, Sem.run_bind, Sem.run, hg, Result.andThen, h, if_true, decode_ascii s pos h ha]
  simp [goInt, Sem.run, hg, itSet]
theorem nx_end (w : World) (g : Nat) (s : ByteArray) (pos : Nat) (ty : TypeId) (hg : w.heap[g]? = some (.stringIter s pos)) (h : ¬ pos < s.size) :
    (Instr.next (.pointer (some ⟨g, 0, none⟩)) true ty).run Tryz.prog w = .ok (.tuple #[.bool false]) w := by
  simp [Instr.next, getObj, Sem.run, hg, h]
theorem rg_str (w : World) (s : ByteArray) : (Instr.range 9 (.string s)).run Tryz.prog w = .ok (.pointer (some ⟨w.heap.size, 0, none⟩)) (w.iter s 0) := run_range_string w 9 s Tryz.underlying9
theorem Fr.of_below' {w w' : World} (h : Below w.heap.size w w') : Fr (fun _ => False) w w' := (Fr.of_below h).mono fun k hk e => by omega
theorem infoStr : (Tryz.prog.info? 9).map (fun i => (i.zero, i.size, i.bytes)) = some (some (.string ⟨#[]⟩), 1, 16) := by kernel_rfl
def StrsAt (B : Nat) (w : World) (v : Value) (xs : List (List UInt8)) : Prop := w.ownsRow B 9 1 v xs.length (xs.map bts)
theorem strs_get {xs : List (List UInt8)} {j : Nat} {x : List UInt8} (h : xs[j]? = some x) : (xs.map bts)[j]? = some (bts x) := by simp [h]
theorem app_str {B : Nat} {w : World} {v : Value} {xs : List (List UInt8)} (x : List UInt8) (ty : TypeId) (h : StrsAt B w v xs) (hB : B ≤ w.heap.size) (hl : xs.length ≤ 1000) : ∃ v' w', (Builtin.append_ #[68, 68] ty #[v, .slice (some ⟨w.heap.size, 0, none⟩) 1 1]).run Tryz.prog (w.alloc (.cells #[bts x] 9)) = .ok v' w' ∧ (StrsAt B w' v' (xs ++ [x]) ∧ (w.alloc (.cells #[bts x] 9)).grownBy w' v.ownBlock) := by
  obtain ⟨i0, hi, hz0, hz1, hz2⟩ := info_partsB infoStr
  have ha := fr_al (Fr.refl (fun _ => False) w) (.cells #[bts x] 9)
  obtain ⟨v', w', hr, h2, h3, h4⟩ := run_append_own (P := Tryz.prog) (w.alloc (.cells #[bts x] 9)) B 68 ty 9 i0 (.string ⟨#[]⟩) 1 16 Tryz.underlying68 hi hz0 hz1 hz2 rfl (by decide) v xs.length (xs.map bts) (ha.owns h (fun _ _ => id)) ⟨w.heap.size, 0, none⟩ 1 1 [bts x] rfl (fun j u hj => by
    match j, hj with
    | 0, hj =>
      simp at hj
      subst hj
      exact fcell w #[bts x] _ 0 _ rfl
    | j + 1, hj => simp at hj) (by simp [Value.oneCell']) (by unfold maxLen; omega) (by omega) (by simp; omega)
  refine ⟨v', w', hr, ?_, h3⟩
  unfold StrsAt
  rw [List.length_append, List.map_append]
  exact h2
theorem StrsAt.fr {B : Nat} {w w' : World} {v : Value} {xs : List (List UInt8)} {F : Nat → Prop} (h : StrsAt B w v xs) (hf : Fr F w w') (hn : ∀ k, v.ownBlock = some k → ¬F k) : StrsAt B w' v xs := hf.owns h hn
/-- The text of a name and its operands. -/
def assT (nmb : List UInt8) (xs : List (List UInt8)) : List UInt8 := nmb ++ [32] ++ Lib.join xs [44, 32]
theorem t_assemble (nmb : List UInt8) (B : Nat) (v : Value) (xs : List (List UInt8)) (w : World) (h : StrsAt B w v xs) (hx : 0 < xs.length) (hxl : xs.length ≤ 1000) (hjl : (Lib.join xs [44, 32]).length ≤ 100000) (hnl : nmb.length ≤ 100000) : Calls Tryz.prog 36 #[bts nmb, v] w fun e w' => e = .returned (bts (assT nmb xs)) ∧ Fr (fun _ => False) w w' := by
  have hc := h
  rcases h.2 with ⟨_, hn⟩ | ⟨g, cap, cur, rfl, hb, hg, hcap, _⟩
  · omega
  have KJ := Tryz.strings_Join g 0 cap (xs.map fun l => ⟨l.toArray⟩) ⟨#[44, 32]⟩ w (fun j x hj => by
      simp only [List.getElem?_map, Option.map_eq_some_iff] at hj
      obtain ⟨l, hl, rfl⟩ := hj
      have := World.ownsRow.cells hc (g := g) rfl j _ (strs_get hl)
      rw [Addr.add_lit] at this
      exact this) (Array.getElem?_eq_some_iff.1 hg).1 (by simp; omega) (by simpa using hcap) (by
      simp only [List.map_map]
      have : (List.map ((fun x : ByteArray => x.data.toList) ∘ fun l : List UInt8 => (⟨l.toArray⟩ : ByteArray)) xs) = xs := by simp [Function.comp_def]
      rw [this]
      simpa using (by omega : (Lib.join xs [44, 32]).length ≤ 140737488355328))
  have hm : (List.map (fun x : ByteArray => x.data.toList) (xs.map fun l : List UInt8 => (⟨l.toArray⟩ : ByteArray))) = xs := by simp [Function.comp_def]
  rw [hm, List.length_map] at KJ
  refine calls_tw Tryz.func36 rfl rfl (Nat.le_of_ble_eq_true rfl) ?_
  refine TW.sreg ?_
  refine WL.op rfl rfl rfl (W.quiet_assign rfl rfl) ?_
  refine WL.nil ?_
  refine TW.sreg ?_
  refine WL.op rfl rfl rfl (W.quiet_move rfl rfl) ?_
  refine WL.op rfl rfl rfl (W.quiet_bin rfl rfl rfl (fun W => bn_cat W _ _ nmb [32] (by simp; omega))) ?_
  refine WL.op rfl rfl rfl (W.quiet_move rfl rfl) ?_
  refine WL.call (hr := KJ) rfl rfl rfl rfl rfl (fun W => cf_join W _) ?_
  rintro e w1 ⟨rfl, hbl⟩
  refine ⟨_, rfl, ?_⟩
  refine WL.op rfl rfl rfl (W.quiet_bin rfl rfl rfl (fun W => bn_cat W _ _ (nmb ++ [32]) (Lib.join xs [44, 32]) (by simp; omega))) ?_
  refine WL.op rfl rfl rfl (W.quiet_assign rfl rfl) ?_
  refine WL.nil ?_
  refine TW.rt ?_
  repeat (with_reducible refine Xw.thn (by simp) ?_)
  refine bodyw_ret rfl rfl ?_
  exact ⟨rfl, Fr.of_below' hbl⟩
theorem lay_chars (op : Int) : ∀ o ∈ layT op, o = 100 ∨ o = 97 ∨ o = 98 ∨ o = 109 ∨ o = 105 := by
  unfold layT layF
  intro o ho
  repeat' split at ho
  all_goals (simp at ho; try omega)
  all_goals (rcases ho with h | h | h) <;> simp_all
theorem lay_len (op : Int) : (layT op).length ≤ 3 := by
  unfold layT layF
  repeat' split
  all_goals simp
theorem opd_len {rd r1 r2 imm : Int} (h1 : I64 rd) (h2 : I64 r1) (h3 : I64 r2) (h4 : I64 imm) (o : UInt8) : (opdT rd r1 r2 imm o).length ≤ 60 := by
  have a1 := itoa_len2 h1.1 h1.2
  have a2 := itoa_len2 h2.1 h2.2
  have a3 := itoa_len2 h3.1 h3.2
  have a4 := itoa_len2 h4.1 h4.2
  unfold opdT regT
  repeat' split
  all_goals (simp; omega)
theorem join_len3 : ∀ xs : List (List UInt8), xs.length ≤ 3 → (∀ x ∈ xs, x.length ≤ 60) → (Lib.join xs [44, 32]).length ≤ 1000
  | [], _, _ => by simp [Lib.join]
  | [a], _, h => by have := h a (by simp); simp [Lib.join]; omega
  | [a, b], _, h => by have := h a (by simp); have := h b (by simp); simp [Lib.join]; omega
  | [a, b, c], _, h => by have := h a (by simp); have := h b (by simp); have := h c (by simp); simp [Lib.join]; omega
  | _ :: _ :: _ :: _ :: _, hl, _ => by simp at hl
def nmT (op : Int) : List UInt8 := (nm (ix op)).data.toList
theorem nm_fin : ∀ k : Fin 46, (nm k.val).data.toList.length ≤ 100 := by decide
theorem nmT_len (op : Int) : (nmT op).length ≤ 100 := nm_fin ⟨ix op, by unfold ix; split <;> omega⟩
theorem t_name (op : Int) (w : World) : Calls Tryz.prog 37 #[.int .i64 op] w fun e w' => e = .returned (bts (nmT op)) ∧ Fr (fun _ => False) w w' :=
  (c37 op w).mono fun e w' h => ⟨by rw [h.1]; rfl, Fr.of_grown h.2⟩
section
variable (w : World) (b o : Nat)
theorem ldins (u1 u2 u3 u4 u5 : Value) (h1 : w.cell? ⟨b, o, none⟩ = some u1) (h2 : w.cell? ⟨b, o + 1, none⟩ = some u2) (h3 : w.cell? ⟨b, o + 2, none⟩ = some u3) (h4 : w.cell? ⟨b, o + 3, none⟩ = some u4) (h5 : w.cell? ⟨b, o + 4, none⟩ = some u5) : (Instr.loadAt 23 (.pointer (some ⟨b, o, none⟩))).run Tryz.prog w = .ok (.agg #[u1, u2, u3, u4, u5]) w := by simp [go_sem, h1, h2, h3, h4, h5]
theorem bs_s (x : List UInt8) : (Instr.buildSlice 68 1 #[(0, bts x)]).run Tryz.prog w = .ok (.slice (some ⟨w.heap.size, 0, none⟩) 1 1) (w.alloc (.cells #[bts x] 9)) := by simp [go_sem]
end
/-- The line of an instruction. -/
def lineT (op rd r1 r2 imm : Int) : List UInt8 := assT (nmT op) ((layT op).map (opdT rd r1 r2 imm))
theorem WL.ext {P : Program} {ops : Array Oper} {N : Nat} {Q : Exit → Act → World → Prop} {s : List (Nat × Value)} {l : List Oper} {o : Oper} {d : Nat} {w : World} {x : Operand} {j : Nat} {vs : Array Value} {v : Value} (hop : o.op = .extract x j) (hd : o.dst = some d) (hN : Nat.blt d N = true) (hg : gd ops s o = some true) (hu : ev s x = some (.tuple vs)) (hv : vs[j]? = some v) (h : WL P ops N Q ((d, v) :: s) l w) : WL P ops N Q s (o :: l) w :=
  WL.run hd hN hg (fun a k => RH.extract (S := fun _ => True) hop hu hv a k w trivial) h
theorem WL.nx {P : Program} {ops : Array Oper} {N : Nat} {Q : Exit → Act → World → Prop} {s : List (Nat × Value)} {l : List Oper} {o : Oper} {d : Nat} {w w' : World} {x : Operand} {u v : Value} (hop : o.op = .next x true) (hd : o.dst = some d) (hN : Nat.blt d N = true) (hg : gd ops s o = some true) (hu : ev s x = some u) (hr : (Instr.next u true o.type).run P w = .ok v w') (h : WL P ops N Q ((d, v) :: s) l w') : WL P ops N Q s (o :: l) w :=
  WL.run hd hN hg (fun a k => by
    have h1 := k.eval hu
    unfold execOp
    rw [hop]
    simp only [h1, Sem.run_bind, hr, Result.andThen_ok, Sem.run_pure]) h
theorem WL.rg {P : Program} {ops : Array Oper} {N : Nat} {Q : Exit → Act → World → Prop} {s : List (Nat × Value)} {l : List Oper} {o : Oper} {d : Nat} {w w' : World} {t : TypeId} {x : Operand} {u v : Value} (hop : o.op = .range t x) (hd : o.dst = some d) (hN : Nat.blt d N = true) (hg : gd ops s o = some true) (hu : ev s x = some u) (hr : (Instr.range t u).run P w = .ok v w') (h : WL P ops N Q ((d, v) :: s) l w') : WL P ops N Q s (o :: l) w :=
  WL.run hd hN hg (fun a k => by
    have h1 := k.eval hu
    unfold execOp
    rw [hop]
    simp only [h1, Sem.run_bind, hr, Result.andThen_ok, Sem.run_pure]) h
/-- A loop whose rounds are counted by any measure. -/
theorem TW.loopG {P : Program} {N : Nat} {Q : Exit → Act → World → Prop} {s : List (Nat × Value)} {x : Code} {w : World} {n : Nat} (val : Act → World → Nat) (I : Nat → Act → World → Prop) (ht : ∀ j a w, I j a w → val a w = j) (j0 : Nat) (hj0 : j0 ≤ n) (h0 : ∀ a, Kn N s a → I j0 a w)
    (round : ∀ j a w, j ≤ n → I j a w → x.wp P (Exit.then (fun a w => ∃ j', j < j' ∧ j' ≤ n ∧ I j' a w) Q) a w) : TW P N Q s (.loop x) w := fun a k => by
  refine wp_loop (fun a w => ∃ j, j ≤ n ∧ I j a w) (fun a w => n - val a w) ⟨j0, hj0, h0 a k⟩ ?_
  rintro a w ⟨j, hj, hI⟩
  refine wp_mono (round j a w hj hI) ?_
  intro e a' w' q
  cases e with
  | normal =>
    obtain ⟨j', h1, h2, h3⟩ := q
    refine ⟨⟨j', h2, h3⟩, ?_⟩
    simp only [ht j a w hI, ht j' a' w' h3]
    omega
  | exit id => exact q
  | goto l => exact q
  | ret => exact q
  | panic ch => exact q
  | outgrown => exact q
set_option maxRecDepth 100000 in
set_option maxHeartbeats 1600000 in
theorem t_line (op rd r1 r2 imm : Int) (h1 : I64 rd) (h2 : I64 r1) (h3 : I64 r2) (h4 : I64 imm) (h0 : 0 < (layT op).length) (w : World) (ht : TabW w) : Calls Tryz.prog 17 #[.agg #[.int .i64 op, .int .i64 rd, .int .i64 r1, .int .i64 r2, .int .i64 imm]] w fun e w' => e = .returned (bts (lineT op rd r1 r2 imm)) ∧ Fr (fun _ => False) w w' := by
  have hch := lay_chars op
  have hll := lay_len op
  have hLT : lineT op rd r1 r2 imm = assT (nmT op) ((layT op).map (opdT rd r1 r2 imm)) := rfl
  have KL := fun w => t_layout op w
  generalize layT op = lay at *
  refine calls_tw Tryz.func17 rfl rfl (Nat.le_of_ble_eq_true rfl) ?_
  refine TW.sreg ?_
  refine WL.box rfl rfl rfl rfl rfl (bx_ins _ _ _ _ _ _) ?_
  refine WL.op rfl rfl rfl (Go.Proofs.YtlagdgkjpnocfaaGreatDoor.W.quiet_assign rfl rfl) ?_
  refine WL.nil ?_
  have f1 := fr_al (Fr.refl (fun _ => False) w) (.cells #[.int .i64 op, .int .i64 rd, .int .i64 r1, .int .i64 r2, .int .i64 imm] 23)
  have C := fun j y h => fcell w #[.int .i64 op, .int .i64 rd, .int .i64 r1, .int .i64 r2, .int .i64 imm] 23 j y h
  have c0 := C 0 _ rfl
  have c1 := C 1 _ rfl
  have c2 := C 2 _ rfl
  have c3 := C 3 _ rfl
  have c4 := C 4 _ rfl
  have hbx := alloc_lt' w (.cells #[.int .i64 op, .int .i64 rd, .int .i64 r1, .int .i64 r2, .int .i64 imm] 23)
  replace ht := ht.fr f1 id
  clear C
  generalize w.alloc (.cells #[.int .i64 op, .int .i64 rd, .int .i64 r1, .int .i64 r2, .int .i64 imm] 23) = w1 at *
  obtain ⟨bx, hbx0⟩ : ∃ z, w.heap.size = z := ⟨_, rfl⟩
  rw [hbx0] at c0 c1 c2 c3 c4 hbx ⊢
  refine TW.sreg ?_
  refine WL.op rfl rfl rfl (Go.Proofs.YtlagdgkjpnocfaaGreatDoor.W.quiet_assign rfl rfl) ?_
  refine WL.nil ?_
  refine TW.seq ?_
  refine TW.sreg ?_
  refine WL.op rfl rfl rfl (Go.Proofs.YtlagdgkjpnocfaaGreatDoor.W.quiet_field rfl rfl (fun W => li0 W _ _)) ?_
  refine WL.ld rfl rfl rfl rfl rfl (ldi _ _ _ c0) ?_
  refine WL.call (hr := KL w1) rfl rfl rfl rfl rfl (fun W => cf_lay W _) ?_
  rintro e w2 ⟨rfl, f2⟩
  refine ⟨_, rfl, ?_⟩
  refine WL.rg rfl rfl rfl rfl rfl (rg_str _ _) ?_
  refine WL.nil ?_
  replace c0 := f2.cell c0 id
  replace c1 := f2.cell c1 id
  replace c2 := f2.cell c2 id
  replace c3 := f2.cell c3 id
  replace c4 := f2.cell c4 id
  replace hbx := Nat.lt_of_lt_of_le hbx f2.size
  replace ht := ht.fr f2 id
  replace f1 := f1.trans f2
  have htl := ht.lt
  have f3 : Fr (fun _ => False) w2 (w2.iter ⟨lay.toArray⟩ 0) := fr_al (Fr.refl _ _) _
  have hit := World.iter_heap w2 ⟨lay.toArray⟩ 0
  have hglt : w2.heap.size < (w2.iter ⟨lay.toArray⟩ 0).heap.size := by simp [World.iter]
  replace c0 := f3.cell c0 id
  replace c1 := f3.cell c1 id
  replace c2 := f3.cell c2 id
  replace c3 := f3.cell c3 id
  replace c4 := f3.cell c4 id
  replace ht := ht.fr f3 id
  replace f1 := f1.trans f3
  clear f2 f3
  generalize w2.iter ⟨lay.toArray⟩ 0 = w3 at *
  generalize w2.heap.size = g at *
  have hwg : w.heap.size ≤ g := by omega
  refine TW.block ?_
  refine TW.loopG (n := lay.length) (fun _ W => match W.heap[g]? with | some (.stringIter _ p) => p | _ => 0) (fun j b W => ∃ v, Kn Tryz.f17.ntmps [(1, .pointer (some ⟨bx, 0, none⟩)), (3, v), (9, .pointer (some ⟨g, 0, none⟩))] b ∧ W.heap[g]? = some (.stringIter ⟨lay.toArray⟩ j) ∧ StrsAt w3.heap.size W v ((lay.take j).map (opdT rd r1 r2 imm)) ∧ Fr (fun q => q = g) w3 W) (fun j b W h => by obtain ⟨_, _, h, _⟩ := h; rw [h]) 0 (Nat.zero_le _) (fun b h => ⟨_, by (repeat (refine Kn.cons h rfl ?_)); exact h.base, hit, World.ownsRow_nil _ _ _ _, Fr.refl _ _⟩) ?_
  clear hit
  rintro j b W hj ⟨v, hkn, hit, hS, hf⟩
  refine TW.app ?_ hkn
  clear hkn b
  by_cases hlt : j < lay.length
  · have hjs : j < (⟨lay.toArray⟩ : ByteArray).size := by simpa [ByteArray.size] using hlt
    obtain ⟨o, ho⟩ : ∃ o, lay[j]'hlt = o := ⟨_, rfl⟩
    have hso : (⟨lay.toArray⟩ : ByteArray)[j]'hjs = o := by rw [← ho]; rfl
    have hoc := hch o (by rw [← ho]; exact List.getElem_mem hlt)
    have hoa : ((⟨lay.toArray⟩ : ByteArray)[j]'hjs).toNat < 128 := by rw [hso]; rcases hoc with rfl | rfl | rfl | rfl | rfl <;> decide
    have hnx := nx_more W g ⟨lay.toArray⟩ j 0 hit hjs hoa
    rw [hso] at hnx
    have fi := it_fr W g ⟨lay.toArray⟩ (j + 1)
    have hit2 := it_at hit ⟨lay.toArray⟩ (j + 1)
    have hown : ∀ k, v.ownBlock = some k → ¬k = g := fun k e => by have := (World.ownsRow.lt hS k e).1; omega
    have hS2 := hS.fr fi hown
    have hf2 := hf.trans fi
    refine TW.sreg ?_
    refine WL.nx rfl rfl rfl rfl rfl (nx_more W g ⟨lay.toArray⟩ j _ hit hjs hoa) ?_
    rw [hso]
    refine WL.ext rfl rfl rfl rfl rfl rfl ?_
    refine WL.nil ?_
    generalize itSet W g ⟨lay.toArray⟩ (j + 1) = W1 at *
    refine TW.seq ?_
    refine TW.cond rfl (fun _ => ?_) (fun hb => by cases hb)
    refine TW.skip ?_
    refine TW.block ?_
    refine TW.sreg ?_
    refine WL.ext rfl rfl rfl rfl rfl rfl ?_
    refine WL.op rfl rfl rfl (Go.Proofs.YtlagdgkjpnocfaaGreatDoor.W.quiet_assign rfl rfl) ?_
    refine WL.nil ?_
    refine TW.reg ?_
    refine WL.op rfl rfl rfl (Go.Proofs.YtlagdgkjpnocfaaGreatDoor.W.quiet_move rfl rfl) ?_
    have hbg : ¬bx = g := by omega
    refine WL.ld rfl rfl rfl rfl rfl (ldins _ _ _ _ _ _ _ _ (hf2.cell c0 hbg) (hf2.cell c1 hbg) (hf2.cell c2 hbg) (hf2.cell c3 hbg) (hf2.cell c4 hbg)) ?_
    refine WL.op rfl rfl rfl (Go.Proofs.YtlagdgkjpnocfaaGreatDoor.W.quiet_move rfl rfl) ?_
    refine WL.call (hr := t_operand op rd r1 r2 imm o h1 h2 h3 h4 hoc W1 (ht.fr hf2 (by omega))) rfl rfl rfl rfl rfl (fun W => cf_opd W _) ?_
    rintro e W2 ⟨rfl, f4⟩
    refine ⟨_, rfl, ?_⟩
    have hS3 := hS2.fr f4 (fun _ _ => id)
    have hf3 := hf2.trans' f4 (fun _ _ e => e.elim)
    have hsz := hf3.size
    have htk : (lay.take j).length ≤ 1000 := by have := List.length_take_le j lay; omega
    refine WL.bslice rfl rfl rfl rfl rfl (bs_s _ _) ?_
    refine WL.append rfl rfl rfl rfl rfl rfl (app_str _ _ hS3 hsz (by rw [List.length_map]; exact htk)) (fun v' W3 hq => ?_)
    obtain ⟨hS4, hg4⟩ := hq
    refine WL.op rfl rfl rfl (Go.Proofs.YtlagdgkjpnocfaaGreatDoor.W.quiet_assign rfl rfl) ?_
    refine WL.end ?_
    have fb := Fr.of_by hg4
    have fa := fr_al (Fr.refl (fun _ => False) W2) (.cells #[bts (opdT rd r1 r2 imm o)] 9)
    have hlg2 := (Array.getElem?_eq_some_iff.1 hit2).1
    have hit3 : W3.heap[g]? = some (.stringIter ⟨lay.toArray⟩ (j + 1)) := by
      rw [fb.block g (by have := f4.size; have := fa.size; omega) (fun e => hown g e rfl), fa.block g (by have := f4.size; omega) id, f4.block g hlg2 id]
      exact hit2
    have hf4 : Fr (fun q => q = g) w3 W3 := (hf3.trans' fa (fun _ _ e => e.elim)).trans' fb (fun q hq e => by have := (World.ownsRow.lt hS q e).1; omega)
    repeat (with_reducible refine Xw.nblk ?_)
    refine Xw.any fun b h => ⟨j + 1, by omega, by omega, v', by (repeat (refine Kn.cons h rfl ?_)); exact h.base, hit3, by rw [List.take_add_one, List.getElem?_eq_getElem hlt, ho, List.map_append]; exact hS4, hf4⟩
  · have hjn : j = lay.length := by omega
    have hjs : ¬ j < (⟨lay.toArray⟩ : ByteArray).size := by simpa [ByteArray.size] using hlt
    refine TW.sreg ?_
    refine WL.nx rfl rfl rfl rfl rfl (nx_end W g ⟨lay.toArray⟩ j _ hit hjs) ?_
    refine WL.ext rfl rfl rfl rfl rfl rfl ?_
    refine WL.nil ?_
    refine TW.seq ?_
    refine TW.cond rfl (fun hb => by cases hb) (fun _ => ?_)
    refine TW.exit ?_
    repeat (with_reducible refine Xw.thn (by simp) ?_)
    refine Xw.hit ?_
    refine Xw.nrm ?_
    rw [hjn, List.take_length] at hS
    have hbg : ¬bx = g := by omega
    refine TW.sreg ?_
    refine WL.op rfl rfl rfl (Go.Proofs.YtlagdgkjpnocfaaGreatDoor.W.quiet_field rfl rfl (fun W => li0 W _ _)) ?_
    refine WL.ld rfl rfl rfl rfl rfl (ldi _ _ _ (hf.cell c0 hbg)) ?_
    refine WL.call (hr := t_name op W) rfl rfl rfl rfl rfl (fun W => cf_name W _) ?_
    rintro e W2 ⟨rfl, f4⟩
    refine ⟨_, rfl, ?_⟩
    refine WL.op rfl rfl rfl (Go.Proofs.YtlagdgkjpnocfaaGreatDoor.W.quiet_move rfl rfl) ?_
    have hS2 := hS.fr f4 (fun _ _ => id)
    refine WL.call (hr := t_assemble (nmT op) w3.heap.size v _ W2 hS2 (by rw [List.length_map]; exact h0) (by rw [List.length_map]; omega) (by have := join_len3 (lay.map (opdT rd r1 r2 imm)) (by rw [List.length_map]; exact hll) (fun x hx => by obtain ⟨o, _, rfl⟩ := List.mem_map.1 hx; exact opd_len h1 h2 h3 h4 o); omega) (by have := nmT_len op; omega)) rfl rfl rfl rfl rfl (fun W => cf_ass W _) ?_
    rintro e W3 ⟨rfl, f5⟩
    refine ⟨_, rfl, ?_⟩
    refine WL.op rfl rfl rfl (Go.Proofs.YtlagdgkjpnocfaaGreatDoor.W.quiet_assign rfl rfl) ?_
    refine WL.nil ?_
    refine TW.rt ?_
    repeat (with_reducible first | refine Xw.thn (by simp) ?_ | refine Xw.rblk ?_)
    refine bodyw_ret rfl rfl ?_
    exact ⟨by rw [hLT], (f1.trans' hf (fun q hq e => by omega)).trans (f4.trans f5)⟩
def dig (d : Nat) : UInt8 := UInt8.ofNat (if d < 10 then 48 + d else 87 + d)
def hexD (u : Nat) : List UInt8 := if u < 16 then [dig u] else hexD (u / 16) ++ [dig (u % 16)]
termination_by u
decreasing_by omega
theorem hexD_lo {u : Nat} (h : u < 16) : hexD u = [dig u] := by rw [hexD, if_pos h]
theorem hexD_hi {u : Nat} (h : 16 ≤ u) : hexD u = hexD (u / 16) ++ [dig (u % 16)] := by rw [hexD, if_neg (by omega)]
theorem hexD_pos (u : Nat) : 0 < (hexD u).length := by
  by_cases h : u < 16
  · rw [hexD_lo h]; simp
  · rw [hexD_hi (by omega)]; simp
theorem hexD_len : ∀ k u : Nat, 0 < k → u < 16 ^ k → (hexD u).length ≤ k
  | 0, _, h, _ => by omega
  | k + 1, u, _, h => by
    by_cases hu : u < 16
    · rw [hexD_lo hu]; simp
    · rw [hexD_hi (by omega), List.length_append]
      have hk : 0 < k := by
        rcases Nat.eq_zero_or_pos k with e | e
        · subst e; simp at h; omega
        · exact e
      have := hexD_len k (u / 16) hk (by rw [Nat.pow_succ] at h; omega)
      simp
      omega
abbrev DIG : ByteArray := ⟨#[48, 49, 50, 51, 52, 53, 54, 55, 56, 57, 97, 98, 99, 100, 101, 102, 103, 104, 105, 106, 107, 108, 109, 110, 111, 112, 113, 114, 115, 116, 117, 118, 119, 120, 121, 122]⟩
theorem ix_dig (w : World) (d : Nat) (h : d < 16) : (Instr.index 9 (.string DIG) (.int .u64 (d : Int))).run Tryz.prog w = .ok (.int .u8 ((dig d).toNat : Int)) w := by
  have : d = 0 ∨ d = 1 ∨ d = 2 ∨ d = 3 ∨ d = 4 ∨ d = 5 ∨ d = 6 ∨ d = 7 ∨ d = 8 ∨ d = 9 ∨ d = 10 ∨ d = 11 ∨ d = 12 ∨ d = 13 ∨ d = 14 ∨ d = 15 := by omega
  rcases this with rfl | rfl | rfl | rfl | rfl | rfl | rfl | rfl | rfl | rfl | rfl | rfl | rfl | rfl | rfl | rfl <;> simp [go_sem, dig] <;> rfl
theorem al_65 (w : World) : (Instr.alloc 157 true (.tuple #[])).run Tryz.prog w = .ok (.pointer (some ⟨w.heap.size, 0, none⟩)) (w.alloc (.cells (Array.replicate 65 (.int .u8 0)) 157)) := by kernel_rfl
theorem and_15 {m : Int} (h0 : 0 ≤ m) (h1 : m < 18446744073709551616) : bits .and .u64 m 15 = m % 16 := by
  obtain ⟨n, rfl⟩ : ∃ n : Nat, m = (n : Int) := ⟨m.toNat, by omega⟩
  have e : n &&& 15 = n % 16 := Nat.and_two_pow_sub_one_eq_mod n 4
  have b : (BitVec.ofInt 64 (n : Int) &&& BitVec.ofInt 64 15).toNat = n % 16 := by
    rw [BitVec.toNat_and]
    have e1 : (BitVec.ofInt 64 (n : Int)).toNat = n := by
      rw [BitVec.toNat_ofInt]
      omega
    have e2 : (BitVec.ofInt 64 15).toNat = 15 := by decide
    rw [e1, e2, e]
  show IntKind.u64.wrap (((BitVec.ofInt 64 (n : Int) &&& BitVec.ofInt 64 15).toNat : Nat) : Int) = _
  rw [b]
  have hw : IntKind.u64.wrap (((n % 16 : Nat)) : Int) = ((n % 16 : Nat) : Int) := IntWalk.u64_in _ (by omega)
  rw [hw]
  omega
section
variable (w : World) (x y : Operand) (m n : Int)
theorem bn_and15 (h0 : 0 ≤ m) (h1 : m < 18446744073709551616) : (do eqGuard .and 113 x y (.int .u64 m) (.int .u64 15); binOp .and 113 (.int .u64 m) (.int .u64 15) : Sem Value).run Tryz.prog w = .ok (.int .u64 (m % 16)) w := by
  rw [← and_15 h0 h1]; simp [go_sem]
theorem bn_shr4 : (do eqGuard .shr 85 x y (.int .u64 m) (.int .u64 4); binOp .shr 85 (.int .u64 m) (.int .u64 4) : Sem Value).run Tryz.prog w = .ok (.int .u64 (m / 16)) w := by simp [go_sem]
theorem bn_ge64 : (do eqGuard .geq 85 x y (.int .u64 m) (.int .u64 n); binOp .geq 85 (.int .u64 m) (.int .u64 n) : Sem Value).run Tryz.prog w = .ok (.bool (decide (n ≤ m))) w := by simp [go_sem]
theorem bn_subi (h0 : -9223372036854775808 ≤ m - n) (h1 : m - n ≤ 9223372036854775807) : (do eqGuard .sub 3 x y (.int .i64 m) (.int .i64 n); binOp .sub 3 (.int .i64 m) (.int .i64 n) : Sem Value).run Tryz.prog w = .ok (.int .i64 (m - n)) w := by
  have h : IntKind.i64.wrap (m - n) = m - n := IntWalk.i64_in _ (by omega)
  simp [go_sem, h]
theorem bn_lti : (do eqGuard .lss 3 x y (.int .i64 m) (.int .i64 n); binOp .lss 3 (.int .i64 m) (.int .i64 n) : Sem Value).run Tryz.prog w = .ok (.bool (decide (m < n))) w := by simp [go_sem]
theorem bn_gti : (do eqGuard .gtr 3 x y (.int .i64 m) (.int .i64 n); binOp .gtr 3 (.int .i64 m) (.int .i64 n) : Sem Value).run Tryz.prog w = .ok (.bool (decide (n < m))) w := by simp [go_sem]
theorem bn_subu : (do eqGuard .sub 113 x y (.int .u64 16) (.int .u64 1); binOp .sub 113 (.int .u64 16) (.int .u64 1) : Sem Value).run Tryz.prog w = .ok (.int .u64 15) w := by
  have h : IntKind.u64.wrap 15 = 15 := by decide
  simp [go_sem, h]
theorem cv_iu (h0 : 0 ≤ m) (h1 : m < 18446744073709551616) : (convert 3 113 (.int .i64 m)).run Tryz.prog w = .ok (.int .u64 m) w := by
  have h : IntKind.u64.wrap m = m := IntWalk.u64_in _ (by omega)
  simp [go_sem, h]
theorem cv_iu64 (h0 : 0 ≤ m) (h1 : m < 18446744073709551616) : (convert 3 85 (.int .i64 m)).run Tryz.prog w = .ok (.int .u64 m) w := by
  have h : IntKind.u64.wrap m = m := IntWalk.u64_in _ (by omega)
  simp [go_sem, h]
theorem cv_u8i : (convert 5 3 (.int .u8 4)).run Tryz.prog w = .ok (.int .i64 4) w := by
  have h : IntKind.i64.wrap 4 = 4 := by decide
  simp [go_sem, h]
end
theorem WL.cv {P : Program} {ops : Array Oper} {N : Nat} {Q : Exit → Act → World → Prop} {s : List (Nat × Value)} {l : List Oper} {o : Oper} {d : Nat} {w w' : World} {t t' : TypeId} {x : Operand} {u v : Value} (hop : o.op = .convert t t' x) (hd : o.dst = some d) (hN : Nat.blt d N = true) (hg : gd ops s o = some true) (hu : ev s x = some u) (hr : (convert t t' u).run P w = .ok v w') (h : WL P ops N Q ((d, v) :: s) l w') : WL P ops N Q s (o :: l) w :=
  WL.run hd hN hg (fun a k => by
    have h1 := k.eval hu
    unfold execOp
    rw [hop]
    simp only [h1, Sem.run_bind, hr, Result.andThen_ok, Sem.run_pure]) h
theorem WL.ix {P : Program} {ops : Array Oper} {N : Nat} {Q : Exit → Act → World → Prop} {s : List (Nat × Value)} {l : List Oper} {o : Oper} {d : Nat} {w w' : World} {t : TypeId} {x y : Operand} {u i v : Value} (hop : o.op = .index t x y) (hd : o.dst = some d) (hN : Nat.blt d N = true) (hg : gd ops s o = some true) (hu : ev s x = some u) (hi : ev s y = some i) (hr : (Instr.index t u i).run P w = .ok v w') (h : WL P ops N Q ((d, v) :: s) l w') : WL P ops N Q s (o :: l) w :=
  WL.run hd hN hg (fun a k => by
    have h1 := k.eval hu
    have h2 := k.eval hi
    unfold execOp
    rw [hop]
    simp only [h1, h2, Sem.run_bind, hr, Result.andThen_ok, Sem.run_pure]) h
theorem cf_ip2 (w : World) (vs : Array Value) : (callFunc 136 vs).run Tryz.prog w = .ok (.enter 136 vs) w := by simp [go_sem]
theorem cf_tz (w : World) (vs : Array Value) : (callFunc 137 vs).run Tryz.prog w = .ok (.enter 137 vs) w := by simp [go_sem]
theorem t_ip2 (w : World) : Calls Tryz.prog 136 #[.int .i64 16] w fun e w' => e = .returned (.bool true) ∧ w = w' := by
  go_enter Tryz.func136, Tryz.ntmps136
  go_wp2
  go_ret
  refine ⟨?_, rfl⟩
  show Ending.returned (.bool (bits .and .i64 16 15 == 0)) = _
  rw [show (bits BinOp.and IntKind.i64 16 15 == 0) = true by decide]
end Go.Proofs.YtlagdgkjpnocfaaGreatDoor
