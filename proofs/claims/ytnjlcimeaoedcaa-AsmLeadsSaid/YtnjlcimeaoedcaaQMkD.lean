/-
  Items (layer 5): the document's own Far. Items (layer 5): the document's own insts. A walk over a region that draws its order, over a frame of which some slots are known.
-/
import Derived.Test.YtnjlcimeaoedcaaQMkP
import Derived.Deep.OwnRows
import Derived.Test.YtnjlcimeaoedcaaQFr
import Derived.OrdersHeld
namespace Go.Proofs.Ytnjlcimeaoedcaa
open Go.RowKit
set_option linter.unusedVariables false
set_option linter.unusedSimpArgs false
def bls (F : Nat → Bool) (n : Nat) : List Value := (List.range n).map (fun k => .bool (F k))
theorem bls_len (F : Nat → Bool) (n : Nat) : (bls F n).length = n := by simp [bls]
theorem bls_get (F : Nat → Bool) {n k : Nat} (h : k < n) : (bls F n)[k]? = some (.bool (F k)) := by simp [bls, h]
/-- A row of truths. -/
structure BRow (B : Nat) (w : World) (g : Nat) (F : Nat → Bool) (n : Nat) : Prop where
  heap : w.heap[g]? = some (.cells (bls F n).toArray 4 (0, 0))
  ge : B ≤ g
theorem BRow.lt {B g n : Nat} {w : World} {F : Nat → Bool} (h : BRow B w g F n) : g < w.heap.size := (Array.getElem?_eq_some_iff.1 h.heap).1
theorem BRow.fr {B g n : Nat} {w w' : World} {F : Nat → Bool} {G : Nat → Prop} (h : BRow B w g F n) (hf : Fr G w w') (hn : ¬ G g) : BRow B w' g F n := ⟨(hf.block g h.lt hn).trans h.heap, h.ge⟩
theorem BRow.cell {B g n : Nat} {w : World} {F : Nat → Bool} (h : BRow B w g F n) {k : Nat} (hk : k < n) : w.cell? ⟨g, k, none⟩ = some (.bool (F k)) := by
  rw [cell_of_row w g k _ _ _ h.heap]
  simp [bls_get F hk]
theorem BRow.free {B g n : Nat} {w : World} {F : Nat → Bool} (h : BRow B w g F n) (k : Nat) : w.frozen? ⟨g, k, none⟩ = false := frozen_of_row w g k _ _ h.heap
theorem BRow.congr {B g n : Nat} {w : World} {F G : Nat → Bool} (h : BRow B w g F n) (e : ∀ k, k < n → F k = G k) : BRow B w g G n := by
  refine ⟨?_, h.ge⟩
  rw [h.heap]
  congr 3
  unfold bls
  apply List.map_congr_left
  intro k hk
  rw [e k (by simpa using hk)]
theorem BRow.set {B g n : Nat} {w : World} {F : Nat → Bool} (h : BRow B w g F n) (k : Nat) (v : Bool) : BRow B (w.setCell ⟨g, k, none⟩ (.bool v)) g (fun j => if j = k then v else F j) n := by
  refine ⟨?_, h.ge⟩
  rw [heap_setCell_same w g k _ _ _ h.heap]
  congr 2
  apply Array.ext'
  simp only [Array.toList_setIfInBounds]
  apply List.ext_getElem?
  intro i
  by_cases hi : i < n
  · rw [bls_get _ hi, List.getElem?_set]
    by_cases e : k = i
    · subst e; simp [bls_len, hi]
    · rw [if_neg e, bls_get _ hi, if_neg (fun q => e q.symm)]
  · rw [List.getElem?_eq_none (by simp [bls_len]; omega), List.getElem?_eq_none (by simp [bls_len]; omega)]
theorem infoB : (Try.prog.info? 4).map (fun i => (i.zero, i.size, i.bytes)) = some (some (.bool false), 1, 1) := by kernel_rfl
theorem mk_b (n : Nat) (hn : n ≤ 1000000) (w : World) : (Instr.makeSlice 64 (.int .i64 (n : Int)) (.int .i64 (n : Int))).run Try.prog w = .ok (.slice (some ⟨w.heap.size, 0, none⟩) n n) (w.alloc (.cells (madeCells #[.bool false] n) 4)) :=
  run_make_row' 64 4 (.bool false) 1 Try.underlying64 infoB rfl .i64 .i64 n (by omega) (by omega) w
theorem mk_row (w : World) (n : Nat) : BRow w.heap.size (w.alloc (.cells (madeCells #[.bool false] n) 4)) w.heap.size (fun _ => false) n := by
  refine ⟨?_, Nat.le_refl _⟩
  rw [heap_alloc_new]
  congr 2
  apply Array.ext'
  apply List.ext_getElem
  · simp [madeCells, bls]
  · intro i h1 h2
    simp [madeCells, bls, Nat.mod_one]
theorem st_b (w : World) (d : Addr) (v b : Bool) (h : w.cell? d = some (.bool v)) (hf : w.frozen? d = false) : (Instr.storeAt 4 (.pointer (some d)) (.bool b)).run Try.prog w = .ok () (w.setCell d (.bool b)) := by simp [go_sem, h, hf]
def mixF (G : Nat → Bool) (i : Nat) : Nat → Bool := fun k => if k < i then G k else false
theorem mixF_set {B g n : Nat} {w : World} {G : Nat → Bool} {i : Nat} {v : Bool} (h : BRow B w g (mixF G i) n) (hv : v = G i) : BRow B (w.setCell ⟨g, i, none⟩ (.bool v)) g (mixF G (i + 1)) n :=
  (h.set i v).congr fun k hk => by
    unfold mixF
    by_cases e : k = i
    · subst e; rw [if_pos rfl, if_pos (by omega), hv]
    · rw [if_neg e]
      by_cases e2 : k < i
      · rw [if_pos e2, if_pos (by omega)]
      · rw [if_neg e2, if_neg (by omega)]
theorem mixF_set2 {B g n : Nat} {w : World} {G : Nat → Bool} {i : Nat} {u v : Bool} (h : BRow B (w.setCell ⟨g, i, none⟩ (.bool u)) g (fun j => if j = i then u else mixF G i j) n) (hv : v = G i) : BRow B ((w.setCell ⟨g, i, none⟩ (.bool u)).setCell ⟨g, i, none⟩ (.bool v)) g (mixF G (i + 1)) n :=
  (h.set i v).congr fun k hk => by
    unfold mixF
    by_cases e : k = i
    · subst e; rw [if_pos rfl, if_pos (by omega), hv]
    · simp only [if_neg e]
      by_cases e2 : k < i
      · rw [if_pos e2, if_pos (by omega)]
      · rw [if_neg e2, if_neg (by omega)]
set_option maxRecDepth 100000 in
set_option maxHeartbeats 3200000 in
theorem r_far (l : List It) (a : Option Addr) (n c : Nat) (hn : n = l.length) (hfew : n ≤ 32768) (hright : ∀ k, k < l.length → rightB (l.getD k it0) = true) (hlack : lackK l (accL l) l.length = false) (w : World) (hat : ItAt w.heap.size w a l) : Calls Try.prog 25 #[.slice a n c] w fun e w' => ∃ g, e = .returned (.slice (some ⟨g, 0, none⟩) n n) ∧ BRow 0 w' g (farL l) n ∧ Fr (fun _ => False) w w' := by
  refine calls_tw Try.func25 rfl rfl (Nat.le_of_ble_eq_true rfl) ?_
  refine TW.sreg ?_
  refine WL.op rfl rfl rfl (W.quiet_assign rfl rfl) ?_
  refine WL.nil ?_
  refine TW.sreg ?_
  refine WL.op rfl rfl rfl (W.quiet_move rfl rfl) ?_
  refine WL.op rfl rfl rfl (W.quiet_len rfl rfl (fun W => ln_t W _ _ _)) ?_
  refine WL.make rfl rfl rfl rfl rfl rfl (mk_b n (by omega) w) ?_
  refine WL.op rfl rfl rfl (W.quiet_assign rfl rfl) ?_
  refine WL.nil ?_
  have hrow0 := mk_row w n
  have hf0 := fr_al (Fr.refl (fun _ => False) w) (.cells (madeCells #[.bool false] n) 4)
  generalize (w.alloc (.cells (madeCells #[.bool false] n) 4)) = w1 at *
  refine TW.seq ?_
  refine TW.sreg ?_
  refine WL.op rfl rfl rfl (W.quiet_assign rfl rfl) ?_
  refine WL.nil ?_
  refine TW.block ?_
  refine TW.loop (t := 4) (n := n + 1) (fun r b wr => ∃ gf, Kn Try.f25.ntmps [(3, .slice (some ⟨gf, 0, none⟩) n n), (4, .int .i64 ((r : Nat) : Int)), (0, .slice a n c)] b ∧ BRow 0 wr gf (farN l (golL l) r) n ∧ Fr (fun _ => False) w wr) (fun r b wr h => by obtain ⟨_, h, _⟩ := h; exact h.has 4 _ rfl) (fun b h => ⟨w.heap.size, by (repeat (refine Kn.cons h rfl ?_)); exact h.base, ⟨hrow0.heap, Nat.zero_le _⟩, hf0⟩) ?_
  rintro r b wr hr ⟨gf, hkn, hrow, hfr⟩
  clear hrow0 hf0 w1
  refine TW.app ?_ hkn
  clear hkn b
  have Ble := fun xo yo W => bn_le W xo yo (r : Int) (n : Int)
  refine TW.to (fun W => W = wr) rfl ?_
  refine T.seq ?_
  refine T.sreg ((15, .bool (decide ((r : Int) ≤ (n : Int)))) :: [(3, .slice (some ⟨gf, 0, none⟩) n n), (4, .int .i64 ((r : Nat) : Int)), (0, .slice a n c)]) ?_ ?_
  ·
    refine W.op rfl rfl rfl (W.quiet_move rfl rfl) ?_
    refine W.op rfl rfl rfl (W.quiet_move rfl rfl) ?_
    refine W.op rfl rfl rfl (W.quiet_len rfl rfl (fun W => ln_t W _ _ _)) ?_
    refine W.op rfl rfl rfl (W.quiet_bin rfl rfl rfl (by first | exact Ble _ _)) ?_
    exact W.nil (fun a h => by (repeat (refine Kn.cons h rfl ?_)); exact h.base)
  refine T.cond rfl (fun hle => ?_) (fun hgt => ?_)
  rotate_left
  · have hrn : r = n + 1 := by have := of_decide_eq_false hgt; omega
    refine T.exit ?_
    repeat (with_reducible refine Xt.thn ?_)
    refine Xt.hit ?_
    refine Xt.nrm ?_
    refine T.sreg [(2, .slice (some ⟨gf, 0, none⟩) n n)] ?_ (T.ret ?_)
    ·
      refine W.op rfl rfl rfl (W.quiet_move rfl rfl) ?_
      refine W.op rfl rfl rfl (W.quiet_assign rfl rfl) ?_
      exact W.nil (fun a h => by (repeat (refine Kn.cons h rfl ?_)); exact h.base)
    · repeat (with_reducible first | refine Rt.thn ?_ | refine Rt.blk ?_)
      refine body_ret rfl rfl ?_
      intro W hW
      subst hW
      refine ⟨gf, rfl, hrow.congr fun k hk => ?_, hfr⟩
      rw [hrn, hn]
      exact far_end l (golL l) (by omega)
  have hle' : r ≤ n := by have := of_decide_eq_true hle; omega
  refine T.skip ?_
  refine T.seq ?_
  refine T.block ?_
  refine T.tw fun w2 hw2 => ?_
  subst hw2
  have hsl : (szF l (farN l (golL l) r)).length = n := by rw [szF_len]; exact hn.symm
  have hz := szF_in l (farN l (golL l) r)
  have hG : ∀ k, farN l (golL l) (r + 1) k = (farN l (golL l) r k || (isBr l k && !reachB (golL l) (szF l (farN l (golL l) r)) k)) := fun k => rfl
  refine TW.sreg ?_
  refine WL.op rfl rfl rfl (W.quiet_move rfl rfl) ?_
  refine WL.op rfl rfl rfl (W.quiet_move rfl rfl) ?_
  refine WL.call (hr := r_places l (farN l (golL l) r) (szF l (farN l (golL l) r)) a n c gf n hn hfew hsl hz (fun k hk => sz_is (by omega) (hright k (by omega)) (far_br l (golL l) r k)) (fun k hk h5 => ⟨(right_5 (hright k (by omega)) h5).2.1, (right_5 (hright k (by omega)) h5).2.2.1⟩) w.heap.size w2 (hat.fr hfr (fun _ h => h.elim)) (fun k hk => hrow.cell hk)) rfl rfl rfl rfl rfl (fun W => cf_plc W _) ?_
  rintro e w3 ⟨v, rfl, hnum, hf3⟩
  obtain ⟨aa, ac, rfl, hat3⟩ := hnum.form
  rw [atP_len] at hat3 ⊢
  refine ⟨_, rfl, ?_⟩
  refine WL.op rfl rfl rfl (W.quiet_assign rfl rfl) ?_
  refine WL.nil ?_
  refine TW.sreg ?_
  refine WL.op rfl rfl rfl (W.quiet_move rfl rfl) ?_
  refine WL.op rfl rfl rfl (W.quiet_len rfl rfl (fun W => ln_t W _ _ _)) ?_
  refine WL.make rfl rfl rfl rfl rfl rfl (mk_b n (by omega) w3) ?_
  refine WL.op rfl rfl rfl (W.quiet_assign rfl rfl) ?_
  refine WL.nil ?_
  have hrown := mk_row w3 n
  have hf4 := hf3.trans (fr_al (Fr.refl (fun _ => False) w3) (.cells (madeCells #[.bool false] n) 4))
  have hat4 : ∀ k, k < n + 1 → ∃ g, aa = some ⟨g, 0, none⟩ ∧ g ≠ w3.heap.size ∧ (w3.alloc (.cells (madeCells #[.bool false] n) 4)).cell? ⟨g, k, none⟩ = some (.int .i64 (4 * sumK (szF l (farN l (golL l) r)) k)) := fun k hk => by
    obtain ⟨g, e, _, h⟩ := hat3 k hk
    have h2 : (atP (szF l (farN l (golL l) r)) (n + 1)).getD k 0 = 4 * sumK (szF l (farN l (golL l) r)) k := by
      unfold atP; rw [List.getD_eq_getElem?_getD, List.getElem?_map, List.getElem?_range hk]; rfl
    rw [h2] at h
    exact ⟨g, e, Nat.ne_of_lt (World.block_lt_of_cell? w3 _ h), (fr_al (Fr.refl (fun _ => False) w3) _).cell h id⟩
  have hgfn : gf ≠ w3.heap.size := Nat.ne_of_lt (Nat.lt_of_lt_of_le hrow.lt hf3.size)
  have hrow4 := hrow.fr hf4 id
  have hfw := hfr.trans hf4
  have hgw : w.heap.size ≤ w3.heap.size := Nat.le_trans hfr.size hf3.size
  clear hat3 hnum hf3 hrow
  generalize (w3.alloc (.cells (madeCells #[.bool false] n) 4)) = w4 at *
  generalize w3.heap.size = gn at *
  generalize farN l (golL l) r = F at *
  generalize hGG : farN l (golL l) (r + 1) = G at *
  refine TW.seq ?_
  refine TW.sreg ?_
  refine WL.op rfl rfl rfl (W.quiet_assign rfl rfl) ?_
  refine WL.nil ?_
  refine TW.block ?_
  refine TW.loop (t := 7) (n := n) (fun i b w5 => Kn Try.f25.ntmps [(5, .slice aa (n + 1) ac), (6, .slice (some ⟨gn, 0, none⟩) n n), (7, .int .i64 ((i : Nat) : Int)), (3, .slice (some ⟨gf, 0, none⟩) n n), (4, .int .i64 ((r : Nat) : Int)), (0, .slice a n c)] b ∧ BRow 0 w5 gn (mixF G i) n ∧ Fr (fun k => k = gn) w4 w5) (fun i b w5 h => h.1.has 7 _ rfl) (fun b h => ⟨by (repeat (refine Kn.cons h rfl ?_)); exact h.base, (⟨hrown.heap, Nat.zero_le _⟩ : BRow 0 w4 gn (fun _ => false) n).congr fun k hk => by simp [mixF], Fr.refl _ _⟩) ?_
  rintro i b w5 hi ⟨hkn, hrow5, hf5⟩
  refine TW.app ?_ hkn
  clear hkn b
  have Blt := fun xo yo W => bn_lt W xo yo (i : Int) (n : Int)
  refine TW.to (fun W => W = w5) rfl ?_
  refine T.seq ?_
  refine T.sreg ((27, .bool (decide ((i : Int) < (n : Int)))) :: [(5, .slice aa (n + 1) ac), (6, .slice (some ⟨gn, 0, none⟩) n n), (7, .int .i64 ((i : Nat) : Int)), (3, .slice (some ⟨gf, 0, none⟩) n n), (4, .int .i64 ((r : Nat) : Int)), (0, .slice a n c)]) ?_ ?_
  ·
    refine W.op rfl rfl rfl (W.quiet_move rfl rfl) ?_
    refine W.op rfl rfl rfl (W.quiet_move rfl rfl) ?_
    refine W.op rfl rfl rfl (W.quiet_len rfl rfl (fun W => ln_t W _ _ _)) ?_
    refine W.op rfl rfl rfl (W.quiet_bin rfl rfl rfl (by first | exact Blt _ _)) ?_
    exact W.nil (fun a h => by (repeat (refine Kn.cons h rfl ?_)); exact h.base)
  refine T.cond rfl (fun hlt => ?_) (fun hge => ?_)
  rotate_left
  · have hin : i = n := by have := of_decide_eq_false hge; omega
    refine T.exit ?_
    repeat (with_reducible refine Xt.thn ?_)
    refine Xt.hit ?_
    refine Xt.nrm ?_
    refine T.tw fun w6 hw6 => ?_
    subst hw6
    refine TW.reg ?_
    refine WL.op rfl rfl rfl (W.quiet_move rfl rfl) ?_
    refine WL.op rfl rfl rfl (W.quiet_assign rfl rfl) ?_
    refine WL.end ?_
    repeat (with_reducible refine Xw.nblk ?_)
    refine Xw.nrm ?_
    have BJ := fun xo yo W => bn_add W xo yo (r : Int) 1 (by omega) (by omega)
    refine TW.reg ?_
    refine WL.op rfl rfl rfl (W.quiet_move rfl rfl) ?_
    refine WL.op rfl rfl rfl (W.quiet_bin rfl rfl rfl (by first | exact BJ _ _)) ?_
    refine WL.op rfl rfl rfl (W.quiet_assign rfl rfl) ?_
    refine WL.end ?_
    refine Xw.any fun b h => ⟨r + 1, by omega, by omega, gn, by (repeat (refine Kn.cons h rfl ?_)); exact h.base, ?_, ?_⟩
    · rw [hGG]
      exact hrow5.congr fun k hk => by unfold mixF; rw [if_pos (by omega)]
    · exact hfw.trans' hf5 (fun j hj e => by omega)
  have hlt' : i < n := by have := of_decide_eq_true hlt; omega
  refine T.skip ?_
  refine T.seq ?_
  refine T.block ?_
  refine T.tw fun w6 hw6 => ?_
  subst hw6
  obtain ⟨x, hx⟩ : ∃ q, l.getD i it0 = q := ⟨_, rfl⟩
  obtain ⟨gx, ox, rfl, hgx, x0, x1, x2, x3, x4, x5, x6⟩ := (hat.fr hfw (fun _ h => h.elim)).get hf5 (fun k e => by omega) i (by omega) x hx
  have hgxn : gx ≠ gn := by omega
  obtain ⟨fI, hfI⟩ : ∃ q, F i = q := ⟨_, rfl⟩
  have cF := hf5.cell (hrow4.cell hlt') hgfn
  rw [hfI] at cF
  have IXF := fun W => ixb W gf 0 n n i hlt'
  have IXN := fun W => ixb W gn 0 n n i hlt'
  have IXX := fun W => ixt W gx ox n c i hlt'
  have cN := hrow5.cell hlt'
  have cNf := hrow5.free i
  have hGi := hG i
  rw [hfI] at hGi
  refine TW.sreg ?_
  refine WL.op rfl rfl rfl (W.quiet_move rfl rfl) ?_
  refine WL.op rfl rfl rfl (W.quiet_move rfl rfl) ?_
  refine WL.op rfl rfl rfl (W.quiet_move rfl rfl) ?_
  refine WL.op rfl rfl rfl (W.quiet_move rfl rfl) ?_
  refine WL.op rfl rfl rfl (W.quiet_index rfl rfl rfl (by first | exact IXF | exact IXN)) ?_
  refine WL.ld rfl rfl rfl rfl rfl (ld_bool _ _ _ (by rw [Nat.zero_add]; exact cF)) ?_
  refine WL.op rfl rfl rfl (W.quiet_index rfl rfl rfl (by first | exact IXF | exact IXN)) ?_
  refine WL.store rfl rfl rfl rfl rfl (st_b _ _ _ _ (by rw [Nat.zero_add]; exact cN) (by rw [Nat.zero_add]; exact cNf)) ?_
  rw [Nat.zero_add]
  refine WL.nil ?_
  have hrow6 := hrow5.set i fI
  have hf6 := hf5.trans (Fr.setCell w6 ⟨gn, i, none⟩ (.bool fI) rfl)
  have hg6 : ∀ {d : Addr} {v : Value}, d.block ≠ gn → w6.cell? d = some v → (w6.setCell ⟨gn, i, none⟩ (.bool fI)).cell? d = some v := fun hd h => (Fr.setCell (F := fun k => k = gn) w6 ⟨gn, i, none⟩ (.bool fI) rfl).cell h hd
  replace x0 := hg6 hgxn x0
  replace x6 := hg6 hgxn x6
  replace cF := hg6 hgfn cF
  have hsame : ∀ w7, w7 = w6.setCell ⟨gn, i, none⟩ (.bool fI) → fI = G i → BRow 0 w7 gn (mixF G (i + 1)) n := fun w7 e h => by rw [e]; exact mixF_set hrow5 h
  have hset2 : ∀ v, v = G i → BRow 0 ((w6.setCell ⟨gn, i, none⟩ (.bool fI)).setCell ⟨gn, i, none⟩ (.bool v)) gn (mixF G (i + 1)) n := fun v h => mixF_set2 hrow6 h
  have cN6 := hrow6.cell hlt'
  have cNf6 := hrow6.free i
  simp only [if_true] at cN6
  clear cN cNf hg6
  generalize (w6.setCell ⟨gn, i, none⟩ (.bool fI)) = w7 at *
  obtain ⟨k3, hk3⟩ : ∃ qq, (x.k == 3) = qq := ⟨_, rfl⟩
  have Bk3 : ∀ (xo yo : Operand) (W : World), (do eqGuard .eql 3 xo yo (.int .i64 x.k) (.int .i64 3); binOp .eql 3 (.int .i64 x.k) (.int .i64 3) : Sem Value).run Try.prog W = .ok (.bool k3) W := fun xo yo W => by rw [← hk3]; exact bn_eq W xo yo x.k 3
  refine TW.to (fun W => W = w7) rfl ?_
  refine T.sreg ((42, .bool k3) :: [(5, .slice aa (n + 1) ac), (6, .slice (some ⟨gn, 0, none⟩) n n), (7, .int .i64 ((i : Nat) : Int)), (3, .slice (some ⟨gf, 0, none⟩) n n), (4, .int .i64 ((r : Nat) : Int)), (0, .slice (some ⟨gx, ox, none⟩) n c)]) ?_ ?_
  ·
    refine W.op rfl rfl rfl (W.quiet_move rfl rfl) ?_
    refine W.op rfl rfl rfl (W.quiet_move rfl rfl) ?_
    refine W.op rfl rfl rfl (W.quiet_index rfl rfl rfl (by first | exact IXX)) ?_
    refine W.op rfl rfl rfl (W.quiet_field rfl rfl (fun W => ft0 W _ _)) ?_
    refine W.op rfl rfl rfl (W.quiet_load rfl rfl (by first | exact (fun W hW => by rw [hW]; exact ld_int _ _ _ x0))) ?_
    refine W.op rfl rfl rfl (W.quiet_bin rfl rfl rfl (by first | exact Bk3 _ _)) ?_
    exact W.nil (fun a h => by (repeat (refine Kn.cons h rfl ?_)); exact h.base)
  refine T.cond rfl (fun hb => ?_) (fun hb => ?_)
  rotate_left
  · have hnb : isBr l i = false := by unfold isBr; rw [hx, hk3]; exact hb
    refine T.tw fun w8 hw8 => ?_
    subst hw8
    refine TW.skipx ?_
    repeat (with_reducible refine Xw.nblk ?_)
    refine Xw.nrm ?_
    have BJ := fun xo yo W => bn_add W xo yo (i : Int) 1 (by omega) (by omega)
    refine TW.reg ?_
    refine WL.op rfl rfl rfl (W.quiet_move rfl rfl) ?_
    refine WL.op rfl rfl rfl (W.quiet_bin rfl rfl rfl (by first | exact BJ _ _)) ?_
    refine WL.op rfl rfl rfl (W.quiet_assign rfl rfl) ?_
    refine WL.end ?_
    refine Xw.any fun b h => ⟨i + 1, by omega, by omega, by (repeat (refine Kn.cons h rfl ?_)); exact h.base, ?_, hf6⟩
    exact hsame _ rfl (by rw [hGi, hnb]; simp)
  have hbr : isBr l i = true := by unfold isBr; rw [hx, hk3]; exact hb
  have hto : isTo (l.getD i it0) = true := by unfold isTo; unfold isBr at hbr; rw [hbr]; rfl
  have hhas := not_lack hlack (i := i) (by omega) hto
  have hway := way_is l (szF l F) (by rw [hsl, hn]) (i := i) (by omega) hto hhas
  have hval := staL_val l _ hhas
  have hvlt := val_ok l _ hhas
  have hoff := off_in hz (by rw [hsl]) hfew (by rw [hn]; exact goals_ok l) hlt'
  rw [hval, Int.toNat_natCast] at hway
  rw [hx] at hway hval hvlt
  generalize valL (accL l) x.lab = t at *
  obtain ⟨ga, rfl, hga, at1⟩ := hat4 t (by omega)
  obtain ⟨ga', e', _, at2⟩ := hat4 i (by omega)
  obtain rfl : ga = ga' := by simpa using e'
  clear e'
  replace at1 := hf6.cell at1 hga
  replace at2 := hf6.cell at2 hga
  have IXT := fun W => ixi W ga 0 (n + 1) ac t (by omega)
  have IXI := fun W => ixi W ga 0 (n + 1) ac i (by omega)
  have hB1 := sumK_in hz t (by rw [hsl]; omega)
  have hB2 := sumK_in hz i (by rw [hsl]; omega)
  have BW : ∀ (xo yo : Operand) (W : World), (do eqGuard .sub 3 xo yo (.int .i64 (4 * sumK (szF l F) t)) (.int .i64 (4 * sumK (szF l F) i)); binOp .sub 3 (.int .i64 (4 * sumK (szF l F) t)) (.int .i64 (4 * sumK (szF l F) i)) : Sem Value).run Try.prog W = .ok (.int .i64 (offK (golL l) (szF l F) i)) W := fun xo yo W => by rw [← hway]; exact bn_sub W xo yo _ _ (by omega) (by omega)
  have hit7 : ItAt w.heap.size w7 (some ⟨gx, ox, none⟩) l := (hat.fr hfw (fun _ h => h.elim)).fr hf6 (fun k e => by omega)
  have KS : ∀ W, Fr (fun _ => False) w7 W → Calls Try.prog 47 #[.slice (some ⟨gx, ox, none⟩) n c, .int .i64 x.lab] W fun e w' => e = .returned (.int .i64 (t : Int)) ∧ Fr (fun _ => False) w7 w' := fun W hW => (r_stands l _ n c x.lab hn (by omega) w.heap.size W (hit7.fr hW (fun _ h => h.elim))).mono fun e w' q => ⟨by rw [q.1, hval], by rw [← q.2]; exact hW⟩
  have LX6 : ∀ W, Fr (fun _ => False) w7 W → (Instr.loadAt 3 (.pointer (some ⟨gx, ox + i * 7 + 6, none⟩))).run Try.prog W = .ok (.int .i64 x.lab) W := fun W hW => ld_int _ _ _ (hW.cell x6 id)
  have LA1 : ∀ W, Fr (fun _ => False) w7 W → (Instr.loadAt 3 (.pointer (some ⟨ga, 0 + t, none⟩))).run Try.prog W = .ok (.int .i64 (4 * sumK (szF l F) t)) W := fun W hW => ld_int _ _ _ (hW.cell (by rw [Nat.zero_add]; exact at1) id)
  have LA2 : ∀ W, Fr (fun _ => False) w7 W → (Instr.loadAt 3 (.pointer (some ⟨ga, 0 + i, none⟩))).run Try.prog W = .ok (.int .i64 (4 * sumK (szF l F) i)) W := fun W hW => ld_int _ _ _ (hW.cell (by rw [Nat.zero_add]; exact at2) id)
  have hrch : reachB (golL l) (szF l F) i = (decide (-4096 ≤ offK (golL l) (szF l F) i) && decide (offK (golL l) (szF l F) i ≤ 4094)) := rfl
  generalize offK (golL l) (szF l F) i = way at *
  refine T.tw fun w8 hw8 => ?_
  subst hw8
  refine TW.to (fun W => Fr (fun _ => False) w8 W) (Fr.refl _ _) ?_
  refine T.sregD (by kernel_rfl) (by kernel_rfl) (fun W hW => hW.drewN 1) ((8, .int .i64 way) :: [(5, .slice (some ⟨ga, 0, none⟩) (n + 1) ac), (6, .slice (some ⟨gn, 0, none⟩) n n), (7, .int .i64 ((i : Nat) : Int)), (3, .slice (some ⟨gf, 0, none⟩) n n), (4, .int .i64 ((r : Nat) : Int)), (0, .slice (some ⟨gx, ox, none⟩) n c)]) ?_ ?_
  ·
    refine W.op rfl rfl rfl (W.quiet_move rfl rfl) ?_
    refine W.op rfl rfl rfl (W.quiet_move rfl rfl) ?_
    refine W.op rfl rfl rfl (W.quiet_move rfl rfl) ?_
    refine W.op rfl rfl rfl (W.quiet_move rfl rfl) ?_
    refine W.op rfl rfl rfl (W.quiet_index rfl rfl rfl (by first | exact IXX)) ?_
    refine W.op rfl rfl rfl (W.quiet_field rfl rfl (fun W => ft2 W _ _)) ?_
    refine W.op rfl rfl rfl (W.quiet_load rfl rfl (by first | exact LX6 | exact LA1 | exact LA2)) ?_
    refine W.op rfl rfl rfl (W.quiet_call (hr := KS) rfl rfl (fun W => cf_sta W _)) ?_
    refine W.op rfl rfl rfl (W.quiet_index rfl rfl rfl (by first | exact IXT | exact IXI)) ?_
    refine W.op rfl rfl rfl (W.quiet_load rfl rfl (by first | exact LX6 | exact LA1 | exact LA2)) ?_
    refine W.op rfl rfl rfl (W.quiet_move rfl rfl) ?_
    refine W.op rfl rfl rfl (W.quiet_move rfl rfl) ?_
    refine W.op rfl rfl rfl (W.quiet_index rfl rfl rfl (by first | exact IXT | exact IXI)) ?_
    refine W.op rfl rfl rfl (W.quiet_load rfl rfl (by first | exact LX6 | exact LA1 | exact LA2)) ?_
    refine W.op rfl rfl rfl (W.quiet_bin rfl rfl rfl (by first | exact BW _ _)) ?_
    refine W.op rfl rfl rfl (W.quiet_assign rfl rfl) ?_
    exact W.nil (fun a h => by (repeat (refine Kn.cons h rfl ?_)); exact h.base)
  refine T.tw fun w9 hw9 => ?_
  have cF9 := hw9.cell cF id
  have cN9 := hw9.cell cN6 id
  have cNf9 : w9.frozen? ⟨gn, i, none⟩ = false := (hrow6.fr hw9 id).free i
  have hrow9 := hrow6.fr hw9 id
  have hset9 : ∀ v, v = G i → BRow 0 (w9.setCell ⟨gn, i, none⟩ (.bool v)) gn (mixF G (i + 1)) n := fun v h => (hrow9.set i v).congr fun k hk => by
    unfold mixF
    by_cases e : k = i
    · subst e; rw [if_pos rfl, if_pos (by omega), h]
    · simp only [if_neg e]
      by_cases e2 : k < i
      · rw [if_pos e2, if_pos (by omega)]
      · rw [if_neg e2, if_neg (by omega)]
  have hf9 := hf6.trans (hw9.mono (fun k hk e => e.elim))
  obtain ⟨lo, hlo⟩ : ∃ qq, (decide (way < -4096)) = qq := ⟨_, rfl⟩
  have Blo : ∀ (xo yo : Operand) (W : World), (do eqGuard .lss 3 xo yo (.int .i64 way) (.int .i64 (-4096)); binOp .lss 3 (.int .i64 way) (.int .i64 (-4096)) : Sem Value).run Try.prog W = .ok (.bool lo) W := fun xo yo W => by rw [← hlo]; exact bn_lt W xo yo way (-4096)
  obtain ⟨hi, hhi⟩ : ∃ qq, (decide (4094 < way)) = qq := ⟨_, rfl⟩
  have Bhi : ∀ (xo yo : Operand) (W : World), (do eqGuard .gtr 3 xo yo (.int .i64 way) (.int .i64 4094); binOp .gtr 3 (.int .i64 way) (.int .i64 4094) : Sem Value).run Try.prog W = .ok (.bool hi) W := fun xo yo W => by rw [← hhi]; exact bn_gt W xo yo way 4094
  have hGv : G i = (fI || lo || hi) := by
    rw [hGi, hbr, hrch, ← hlo, ← hhi, Bool.eq_iff_iff]
    cases fI <;> simp <;> omega
  clear hlo hhi hrch hGi
  refine TW.reg ?_
  cases fI <;> cases lo <;> cases hi
  all_goals
    refine WL.op rfl rfl rfl (W.quiet_move rfl rfl) ?_
    refine WL.op rfl rfl rfl (W.quiet_move rfl rfl) ?_
    refine WL.op rfl rfl rfl (W.quiet_move rfl rfl) ?_
    refine WL.op rfl rfl rfl (W.quiet_move rfl rfl) ?_
    refine WL.op rfl rfl rfl (W.quiet_index rfl rfl rfl (by first | exact IXF | exact IXN)) ?_
    refine WL.ld rfl rfl rfl rfl rfl (ld_bool _ _ _ (by rw [Nat.zero_add]; exact cF9)) ?_
    refine WL.op rfl rfl rfl (W.quiet_move rfl rfl) ?_
    first
    | refine WL.skip rfl rfl rfl ?_
    | refine WL.op rfl rfl rfl (W.quiet_move rfl rfl) ?_
    first
    | refine WL.skip rfl rfl rfl ?_
    | refine WL.op rfl rfl rfl (W.quiet_bin rfl rfl rfl (by first | exact Blo _ _ | exact Bhi _ _)) ?_
    refine WL.op rfl rfl rfl (W.quiet_pick rfl rfl rfl) ?_
    refine WL.op rfl rfl rfl (W.quiet_move rfl rfl) ?_
    first
    | refine WL.skip rfl rfl rfl ?_
    | refine WL.op rfl rfl rfl (W.quiet_move rfl rfl) ?_
    first
    | refine WL.skip rfl rfl rfl ?_
    | refine WL.op rfl rfl rfl (W.quiet_bin rfl rfl rfl (by first | exact Blo _ _ | exact Bhi _ _)) ?_
    refine WL.op rfl rfl rfl (W.quiet_pick rfl rfl rfl) ?_
    refine WL.op rfl rfl rfl (W.quiet_index rfl rfl rfl (by first | exact IXF | exact IXN)) ?_
    refine WL.store rfl rfl rfl rfl rfl (st_b _ _ _ _ (by rw [Nat.zero_add]; exact cN9) (by rw [Nat.zero_add]; exact cNf9)) ?_
    rw [Nat.zero_add]
    refine WL.end ?_
    repeat (with_reducible refine Xw.nblk ?_)
    refine Xw.nrm ?_
    have BJ := fun xo yo W => bn_add W xo yo (i : Int) 1 (by omega) (by omega)
    refine TW.reg ?_
    refine WL.op rfl rfl rfl (W.quiet_move rfl rfl) ?_
    refine WL.op rfl rfl rfl (W.quiet_bin rfl rfl rfl (by first | exact BJ _ _)) ?_
    refine WL.op rfl rfl rfl (W.quiet_assign rfl rfl) ?_
    refine WL.end ?_
    refine Xw.any fun b h => ⟨i + 1, by omega, by omega, by (repeat (refine Kn.cons h rfl ?_)); exact h.base, hset9 _ (by rw [hGv]; rfl), hf9.trans (Fr.setCell _ ⟨gn, i, none⟩ _ rfl)⟩
/-- A row of the call's own. -/
def Rw (w : World) (g : Nat) (z : Array Value) (t : TypeId) : Prop := w.heap[g]? = some (.cells z t (0, 0))
theorem Rw.new (w : World) (z : Array Value) (t : TypeId) : Rw (w.alloc (.cells z t)) w.heap.size z t := heap_alloc_new w _
theorem Rw.lt {w : World} {g : Nat} {z : Array Value} {t : TypeId} (h : Rw w g z t) : g < w.heap.size := (Array.getElem?_eq_some_iff.1 h).1
theorem Rw.fr {w w' : World} {g : Nat} {z : Array Value} {t : TypeId} {F : Nat → Prop} (h : Rw w g z t) (hf : Fr F w w') (hn : ¬F g) : Rw w' g z t := (hf.block g h.lt hn).trans h
theorem Rw.cell {w : World} {g : Nat} {z : Array Value} {t : TypeId} (h : Rw w g z t) {j : Nat} {v : Value} (hv : z[j]? = some v) : w.cell? ⟨g, j, none⟩ = some v := by
  rw [cell_of_row w g j _ _ _ h]; exact hv
theorem Rw.free {w : World} {g : Nat} {z : Array Value} {t : TypeId} (h : Rw w g z t) (j : Nat) : w.frozen? ⟨g, j, none⟩ = false := frozen_of_row w g j _ _ h
theorem Rw.set {w : World} {g : Nat} {z : Array Value} {t : TypeId} (h : Rw w g z t) (j : Nat) (v : Value) : Rw (w.setCell ⟨g, j, none⟩ v) g (z.setIfInBounds j v) t := heap_setCell_same w g j _ _ _ h
theorem st_int (w : World) (d : Addr) (v u : Int) (h : w.cell? d = some (.int .i64 v)) (hf : w.frozen? d = false) : (Instr.storeAt 3 (.pointer (some d)) (.int .i64 u)).run Try.prog w = .ok () (w.setCell d (.int .i64 u)) := by simp [go_sem, h, hf]
theorem right_3 {x : It} (h : rightB x = true) (h3 : x.k = 3) : fm (ix x.op) = 66 ∧ x.rd = 0 ∧ (0 ≤ x.r1 ∧ x.r1 ≤ 31) ∧ (0 ≤ x.r2 ∧ x.r2 ≤ 31) ∧ x.imm = 0 ∧ labB x.lab = true := by
  unfold rightB at h
  rw [if_neg (by omega), if_neg (by omega), if_pos h3] at h
  simp only [Bool.and_eq_true, beq_iff_eq] at h
  obtain ⟨⟨⟨h1, h2⟩, h3'⟩, h4⟩ := h
  unfold fitsB at h1
  rw [h2] at h1
  simp [regB, uRd, uRs1, uRs2] at h1
  exact ⟨h2, by omega, by omega, by omega, h3', h4⟩
theorem right_4 {x : It} (h : rightB x = true) (h4 : x.k = 4) : x.op = 3 ∧ (0 ≤ x.rd ∧ x.rd ≤ 31) ∧ x.r1 = 0 ∧ x.r2 = 0 ∧ x.imm = 0 ∧ labB x.lab = true := by
  unfold rightB at h
  rw [if_neg (by omega), if_neg (by omega), if_neg (by omega), if_pos h4] at h
  simp only [Bool.and_eq_true, beq_iff_eq] at h
  obtain ⟨⟨⟨h1, h2⟩, h3'⟩, h5⟩ := h
  unfold fitsB at h1
  rw [h2, show fm (ix 3) = 74 by decide] at h1
  simp [regB, uRd, uRs1, uRs2] at h1
  exact ⟨h2, by omega, by omega, by omega, h3', h5⟩
def InsD (L : List In) (w : World) (e : Ending) (w' : World) : Prop := ∃ a c, e = .returned (.slice a L.length c) ∧ InAt w' a L ∧ Fr (fun _ => False) w w' ∧ GeA a w
set_option maxRecDepth 100000 in
set_option maxHeartbeats 3200000 in
theorem r_insts (l : List It) (F : Nat → Bool) (a : Option Addr) (n c ga ac gf k : Nat) (L : List In) (hn : n = l.length) (hfew : n ≤ 32768) (hk : k < n) (hr : rightB (l.getD k it0) = true) (hF : F k = true → isBr l k = true) (hlack : lackK l (accL l) l.length = false) (hL : insK l (golL l) F k = some L) (w : World) (hat : ItAt w.heap.size w a l) (ha : ∀ j, j < n + 1 → w.cell? ⟨ga, j, none⟩ = some (.int .i64 (4 * sumK (szF l F) j))) (hrow : w.cell? ⟨gf, k, none⟩ = some (.bool (F k))) : Calls Try.prog 27 #[.slice a n c, .slice (some ⟨ga, 0, none⟩) (n + 1) ac, .slice (some ⟨gf, 0, none⟩) n n, .int .i64 (k : Int)] w (InsD L w) := by
  have hsl : (szF l F).length = n := by rw [szF_len]; exact hn.symm
  have hz := szF_in l F
  obtain ⟨x, hx⟩ : ∃ q, l.getD k it0 = q := ⟨_, rfl⟩
  obtain ⟨gx, ox, rfl, hgx, x0, x1, x2, x3, x4, x5, x6⟩ := hat.get (Fr.refl (fun _ => False) w) (fun _ h => h.elim) k (by omega) x hx
  have IXX := fun W => ixt W gx ox n c k hk
  refine calls_tw Try.func27 rfl rfl (Nat.le_of_ble_eq_true rfl) ?_
  refine TW.sreg ?_
  refine WL.op rfl rfl rfl (W.quiet_assign rfl rfl) ?_
  refine WL.nil ?_
  refine TW.sreg ?_
  refine WL.op rfl rfl rfl (W.quiet_move rfl rfl) ?_
  refine WL.op rfl rfl rfl (W.quiet_move rfl rfl) ?_
  refine WL.op rfl rfl rfl (W.quiet_index rfl rfl rfl IXX) ?_
  refine WL.ld rfl rfl rfl rfl rfl (ld_item _ _ _ _ _ _ _ _ _ _ x0 x1 x2 x3 x4 x5 x6) ?_
  refine WL.alloc rfl rfl rfl rfl (al_it _) ?_
  refine WL.store rfl rfl rfl rfl rfl (st_it _ _ _ _ _ _ _ _) ?_
  refine WL.nil ?_
  have fx := fr_al (Fr.refl (fun _ => False) w) (.cells #[.int .i64 x.k, .int .i64 x.op, .int .i64 x.rd, .int .i64 x.r1, .int .i64 x.r2, .int .i64 x.imm, .int .i64 x.lab] 70)
  have rx := Rw.new w #[.int .i64 x.k, .int .i64 x.op, .int .i64 x.rd, .int .i64 x.r1, .int .i64 x.r2, .int .i64 x.imm, .int .i64 x.lab] 70
  generalize (w.alloc (.cells #[.int .i64 x.k, .int .i64 x.op, .int .i64 x.rd, .int .i64 x.r1, .int .i64 x.r2, .int .i64 x.imm, .int .i64 x.lab] 70)) = w1 at *
  obtain ⟨bx, hbx⟩ : ∃ q, w.heap.size = q := ⟨_, rfl⟩
  rw [hbx] at rx ⊢
  refine TW.sreg ?_
  refine WL.op rfl rfl rfl (W.quiet_field rfl rfl (fun W => ft1 W _ _)) ?_
  refine WL.ld rfl rfl rfl rfl rfl (ld_inst _ _ _ _ _ _ _ _ (rx.cell rfl) (rx.cell rfl) (rx.cell rfl) (rx.cell rfl) (rx.cell rfl)) ?_
  refine WL.alloc rfl rfl rfl rfl (al_in _) ?_
  refine WL.store rfl rfl rfl rfl rfl (st_in _ _ _ _ _ _) ?_
  refine WL.nil ?_
  have rn := Rw.new w1 #[.int .i64 x.op, .int .i64 x.rd, .int .i64 x.r1, .int .i64 x.r2, .int .i64 x.imm] 68
  have fn := fr_al (Fr.refl (fun _ => False) w1) (.cells #[.int .i64 x.op, .int .i64 x.rd, .int .i64 x.r1, .int .i64 x.r2, .int .i64 x.imm] 68)
  replace rx := rx.fr fn id
  have fx0 := fx
  replace fx := fx.trans fn
  have hbn : w.heap.size ≤ w1.heap.size := fx0.size
  generalize (w1.alloc (.cells #[.int .i64 x.op, .int .i64 x.rd, .int .i64 x.r1, .int .i64 x.r2, .int .i64 x.imm] 68)) = w2 at *
  generalize w1.heap.size = bn at *
  refine TW.to (fun W => Fr (fun _ => False) w2 W) (Fr.refl _ _) ?_
  refine T.sub (s' := [(0, .slice (some ⟨gx, ox, none⟩) n c), (1, .slice (some ⟨ga, 0, none⟩) (n + 1) ac), (2, .slice (some ⟨gf, 0, none⟩) n n), (3, .int .i64 (k : Int)), (9, .pointer (some ⟨bx, 0, none⟩)), (10, .pointer (some ⟨bn, 0, none⟩))]) ?_ (fun a h => by (repeat (refine Kn.cons h rfl ?_)); exact h.base)
  obtain ⟨k1, hk1⟩ : ∃ qq, (x.k == 1) = qq := ⟨_, rfl⟩
  have Bk1 : ∀ (xo yo : Operand) (W : World), (do eqGuard .eql 3 xo yo (.int .i64 x.k) (.int .i64 1); binOp .eql 3 (.int .i64 x.k) (.int .i64 1) : Sem Value).run Try.prog W = .ok (.bool k1) W := fun xo yo W => by rw [← hk1]; exact bn_eq W xo yo x.k 1
  obtain ⟨k2, hk2⟩ : ∃ qq, (x.k == 2) = qq := ⟨_, rfl⟩
  have Bk2 : ∀ (xo yo : Operand) (W : World), (do eqGuard .eql 3 xo yo (.int .i64 x.k) (.int .i64 2); binOp .eql 3 (.int .i64 x.k) (.int .i64 2) : Sem Value).run Try.prog W = .ok (.bool k2) W := fun xo yo W => by rw [← hk2]; exact bn_eq W xo yo x.k 2
  obtain ⟨k5, hk5⟩ : ∃ qq, (x.k == 5) = qq := ⟨_, rfl⟩
  have Bk5 : ∀ (xo yo : Operand) (W : World), (do eqGuard .eql 3 xo yo (.int .i64 x.k) (.int .i64 5); binOp .eql 3 (.int .i64 x.k) (.int .i64 5) : Sem Value).run Try.prog W = .ok (.bool k5) W := fun xo yo W => by rw [← hk5]; exact bn_eq W xo yo x.k 5
  have L0 : ∀ W, Fr (fun _ => False) w2 W → (Instr.loadAt 3 (.pointer (some ⟨bx, 0, none⟩))).run Try.prog W = .ok (.int .i64 x.k) W := fun W hW => ld_int _ _ _ ((rx.fr hW id).cell rfl)
  have L6 : ∀ W, Fr (fun _ => False) w2 W → (Instr.loadAt 3 (.pointer (some ⟨bx, 0 + 6, none⟩))).run Try.prog W = .ok (.int .i64 x.lab) W := fun W hW => ld_int _ _ _ ((rx.fr hW id).cell rfl)
  have LN : ∀ W, Fr (fun _ => False) w2 W → (Instr.loadAt 68 (.pointer (some ⟨bn, 0, none⟩))).run Try.prog W = .ok (.agg #[.int .i64 x.op, .int .i64 x.rd, .int .i64 x.r1, .int .i64 x.r2, .int .i64 x.imm]) W := fun W hW => ld_inst _ _ _ _ _ _ _ _ ((rn.fr hW id).cell rfl) ((rn.fr hW id).cell rfl) ((rn.fr hW id).cell rfl) ((rn.fr hW id).cell rfl) ((rn.fr hW id).cell rfl)
  unfold insK at hL
  rw [hx] at hL hr
  refine T.seq ?_
  refine T.sreg ((20, .bool k1) :: [(0, .slice (some ⟨gx, ox, none⟩) n c), (1, .slice (some ⟨ga, 0, none⟩) (n + 1) ac), (2, .slice (some ⟨gf, 0, none⟩) n n), (3, .int .i64 (k : Int)), (9, .pointer (some ⟨bx, 0, none⟩)), (10, .pointer (some ⟨bn, 0, none⟩))]) ?_ ?_
  ·
    refine W.op rfl rfl rfl (W.quiet_field rfl rfl (fun W => ft0 W _ _)) ?_
    refine W.op rfl rfl rfl (W.quiet_load rfl rfl (by first | exact L0)) ?_
    refine W.op rfl rfl rfl (W.quiet_bin rfl rfl rfl (by first | exact Bk1 _ _ | exact Bk2 _ _ | exact Bk5 _ _)) ?_
    exact W.nil (fun a h => by (repeat (refine Kn.cons h rfl ?_)); exact h.base)
  refine T.cond rfl (fun hb => ?_) (fun hb => ?_)
  · have h1 : x.k = 1 := by rw [← hk1] at hb; simpa using hb
    simp only [h1, if_true, Option.some.injEq] at hL
    subst hL
    refine T.tw fun w3 hw3 => ?_
    refine TW.sreg ?_
    refine WL.ld rfl rfl rfl rfl rfl (LN w3 hw3) ?_
    refine WL.bslice rfl rfl rfl rfl rfl (bs_1 _ _ _ _ _ _) ?_
    refine WL.op rfl rfl rfl (W.quiet_assign rfl rfl) ?_
    refine WL.nil ?_
    refine TW.rt ?_
    repeat (with_reducible refine Xw.thn (by simp) ?_)
    refine bodyw_ret rfl rfl ?_
    exact ⟨some ⟨w3.heap.size, 0, none⟩, 1, rfl, inAt_one w3 _ _ ⟨x.op, x.rd, x.r1, x.r2, x.imm⟩ (Fr.refl _ _), fx.trans (fr_al hw3 _), GeA.some (fx.trans hw3).size⟩
  have h1 : ¬x.k = 1 := by rw [← hk1] at hb; simpa using hb
  rw [if_neg h1] at hL
  refine T.skip ?_
  refine T.seq ?_
  refine T.sreg ((25, .bool k2) :: [(0, .slice (some ⟨gx, ox, none⟩) n c), (1, .slice (some ⟨ga, 0, none⟩) (n + 1) ac), (2, .slice (some ⟨gf, 0, none⟩) n n), (3, .int .i64 (k : Int)), (9, .pointer (some ⟨bx, 0, none⟩)), (10, .pointer (some ⟨bn, 0, none⟩))]) ?_ ?_
  ·
    refine W.op rfl rfl rfl (W.quiet_field rfl rfl (fun W => ft0 W _ _)) ?_
    refine W.op rfl rfl rfl (W.quiet_load rfl rfl (by first | exact L0)) ?_
    refine W.op rfl rfl rfl (W.quiet_bin rfl rfl rfl (by first | exact Bk1 _ _ | exact Bk2 _ _ | exact Bk5 _ _)) ?_
    exact W.nil (fun a h => by (repeat (refine Kn.cons h rfl ?_)); exact h.base)
  refine T.cond rfl (fun hb => ?_) (fun hb => ?_)
  · have h2 : x.k = 2 := by rw [← hk2] at hb; simpa using hb
    rw [if_neg (by omega), if_neg (by omega), if_neg (by omega), Option.some.injEq] at hL
    subst hL
    refine T.sreg [(8, .slice none 0 0)] ?_ (T.ret ?_)
    · refine W.op rfl rfl rfl (W.quiet_assign rfl rfl) ?_
      exact W.nil (fun a h => by (repeat (refine Kn.cons h rfl ?_)); exact h.base)
    · repeat (with_reducible first | refine Rt.thn ?_ | refine Rt.blk ?_)
      refine body_ret rfl rfl ?_
      exact fun W hW => ⟨none, 0, rfl, fun j hj => absurd hj (by simp), fx.trans hW, GeA.none⟩
  have h2 : ¬x.k = 2 := by rw [← hk2] at hb; simpa using hb
  refine T.skip ?_
  refine T.seq ?_
  refine T.sreg ((28, .bool k5) :: [(0, .slice (some ⟨gx, ox, none⟩) n c), (1, .slice (some ⟨ga, 0, none⟩) (n + 1) ac), (2, .slice (some ⟨gf, 0, none⟩) n n), (3, .int .i64 (k : Int)), (9, .pointer (some ⟨bx, 0, none⟩)), (10, .pointer (some ⟨bn, 0, none⟩))]) ?_ ?_
  ·
    refine W.op rfl rfl rfl (W.quiet_field rfl rfl (fun W => ft0 W _ _)) ?_
    refine W.op rfl rfl rfl (W.quiet_load rfl rfl (by first | exact L0)) ?_
    refine W.op rfl rfl rfl (W.quiet_bin rfl rfl rfl (by first | exact Bk1 _ _ | exact Bk2 _ _ | exact Bk5 _ _)) ?_
    exact W.nil (fun a h => by (repeat (refine Kn.cons h rfl ?_)); exact h.base)
  refine T.cond rfl (fun hb => ?_) (fun hb => ?_)
  · have h5 : x.k = 5 := by rw [← hk5] at hb; simpa using hb
    rw [if_pos h5, Option.some.injEq] at hL
    subst hL
    obtain ⟨_, m0, m1, _⟩ := right_5 hr h5
    refine T.tw fun w3 hw3 => ?_
    refine TW.sreg ?_
    refine WL.op rfl rfl rfl (W.quiet_field rfl rfl (fun W => fn1 W _ _)) ?_
    refine WL.ld rfl rfl rfl rfl rfl (ld_int _ _ _ ((rn.fr hw3 id).cell rfl)) ?_
    refine WL.op rfl rfl rfl (W.quiet_field rfl rfl (fun W => fn4 W _ _)) ?_
    refine WL.ld rfl rfl rfl rfl rfl (ld_int _ _ _ ((rn.fr hw3 id).cell rfl)) ?_
    refine WL.call (hr := r_number x.rd x.imm m0 m1 w3) rfl rfl rfl rfl rfl (fun W => cf_num W _) ?_
    rintro e w4 ⟨na, nc, rfl, hin, hf4, hge⟩
    refine ⟨_, rfl, ?_⟩
    refine WL.op rfl rfl rfl (W.quiet_assign rfl rfl) ?_
    refine WL.nil ?_
    refine TW.rt ?_
    repeat (with_reducible refine Xw.thn (by simp) ?_)
    refine bodyw_ret rfl rfl ?_
    exact ⟨na, nc, rfl, hin, fx.trans (hw3.trans hf4), fun g o e => ⟨Nat.le_trans (fx.trans hw3).size (hge g o e).1, (hge g o e).2⟩⟩
  have h5 : ¬x.k = 5 := by rw [← hk5] at hb; simpa using hb
  rw [if_neg h5] at hL
  refine T.skip ?_
  have hkd := right_kind hr
  have hto : isTo (l.getD k it0) = true := by rw [hx]; unfold isTo; rcases hkd with e | e | e | e | e <;> first | omega | simp [e]
  have hhas := not_lack hlack (i := k) (by omega) hto
  have hway := way_is l (szF l F) (by rw [hsl, hn]) (i := k) (by omega) hto hhas
  have hval := staL_val l _ hhas
  have hvlt := val_ok l _ hhas
  have hoff := off_in hz (by rw [hsl]) hfew (by rw [hn]; exact goals_ok l) hk
  rw [hval, Int.toNat_natCast] at hway
  rw [hx] at hway hval hvlt
  generalize valL (accL l) x.lab = t at *
  have at1 := fx.cell (ha t (by omega)) id
  have at2 := fx.cell (ha k (by omega)) id
  have hrow2 := fx.cell hrow id
  have IXT := fun W => ixi W ga 0 (n + 1) ac t (by omega)
  have IXI := fun W => ixi W ga 0 (n + 1) ac k (by omega)
  have hB1 := sumK_in hz t (by rw [hsl]; omega)
  have hB2 := sumK_in hz k (by rw [hsl]; omega)
  have BW : ∀ (xo yo : Operand) (W : World), (do eqGuard .sub 3 xo yo (.int .i64 (4 * sumK (szF l F) t)) (.int .i64 (4 * sumK (szF l F) k)); binOp .sub 3 (.int .i64 (4 * sumK (szF l F) t)) (.int .i64 (4 * sumK (szF l F) k)) : Sem Value).run Try.prog W = .ok (.int .i64 (offK (golL l) (szF l F) k)) W := fun xo yo W => by rw [← hway]; exact bn_sub W xo yo _ _ (by omega) (by omega)
  have hit2 : ItAt w.heap.size w2 (some ⟨gx, ox, none⟩) l := hat.fr fx (fun _ h => h.elim)
  have KS : ∀ W, Fr (fun _ => False) w2 W → Calls Try.prog 47 #[.slice (some ⟨gx, ox, none⟩) n c, .int .i64 x.lab] W fun e w' => e = .returned (.int .i64 (t : Int)) ∧ Fr (fun _ => False) w2 w' := fun W hW => (r_stands l _ n c x.lab hn (by omega) w.heap.size W (hit2.fr hW (fun _ h => h.elim))).mono fun e w' q => ⟨by rw [q.1, hval], by rw [← q.2]; exact hW⟩
  have LA1 : ∀ W, Fr (fun _ => False) w2 W → (Instr.loadAt 3 (.pointer (some ⟨ga, 0 + t, none⟩))).run Try.prog W = .ok (.int .i64 (4 * sumK (szF l F) t)) W := fun W hW => ld_int _ _ _ (hW.cell (by rw [Nat.zero_add]; exact at1) id)
  have LA2 : ∀ W, Fr (fun _ => False) w2 W → (Instr.loadAt 3 (.pointer (some ⟨ga, 0 + k, none⟩))).run Try.prog W = .ok (.int .i64 (4 * sumK (szF l F) k)) W := fun W hW => ld_int _ _ _ (hW.cell (by rw [Nat.zero_add]; exact at2) id)
  generalize offK (golL l) (szF l F) k = way at *
  refine T.sregD (by kernel_rfl) (by kernel_rfl) (fun W hW => hW.drewN 1) ((11, .int .i64 way) :: [(0, .slice (some ⟨gx, ox, none⟩) n c), (1, .slice (some ⟨ga, 0, none⟩) (n + 1) ac), (2, .slice (some ⟨gf, 0, none⟩) n n), (3, .int .i64 (k : Int)), (9, .pointer (some ⟨bx, 0, none⟩)), (10, .pointer (some ⟨bn, 0, none⟩))]) ?_ ?_
  ·
    refine W.op rfl rfl rfl (W.quiet_move rfl rfl) ?_
    refine W.op rfl rfl rfl (W.quiet_move rfl rfl) ?_
    refine W.op rfl rfl rfl (W.quiet_field rfl rfl (fun W => ft2 W _ _)) ?_
    refine W.op rfl rfl rfl (W.quiet_load rfl rfl (by first | exact L6 | exact LA1 | exact LA2)) ?_
    refine W.op rfl rfl rfl (W.quiet_call (hr := KS) rfl rfl (fun W => cf_sta W _)) ?_
    refine W.op rfl rfl rfl (W.quiet_index rfl rfl rfl (by first | exact IXT | exact IXI)) ?_
    refine W.op rfl rfl rfl (W.quiet_load rfl rfl (by first | exact L6 | exact LA1 | exact LA2)) ?_
    refine W.op rfl rfl rfl (W.quiet_move rfl rfl) ?_
    refine W.op rfl rfl rfl (W.quiet_move rfl rfl) ?_
    refine W.op rfl rfl rfl (W.quiet_index rfl rfl rfl (by first | exact IXT | exact IXI)) ?_
    refine W.op rfl rfl rfl (W.quiet_load rfl rfl (by first | exact L6 | exact LA1 | exact LA2)) ?_
    refine W.op rfl rfl rfl (W.quiet_bin rfl rfl rfl (by first | exact BW _ _)) ?_
    refine W.op rfl rfl rfl (W.quiet_assign rfl rfl) ?_
    exact W.nil (fun a h => by (repeat (refine Kn.cons h rfl ?_)); exact h.base)
  obtain ⟨fI, hfI⟩ : ∃ q, F k = q := ⟨_, rfl⟩
  rw [hfI] at hrow2 hL hF
  have IXF := fun W => ixb W gf 0 n n k hk
  have LF : ∀ W, Fr (fun _ => False) w2 W → (Instr.loadAt 4 (.pointer (some ⟨gf, 0 + k, none⟩))).run Try.prog W = .ok (.bool fI) W := fun W hW => ld_bool _ _ _ (hW.cell (by rw [Nat.zero_add]; exact hrow2) id)
  refine T.seq ?_
  refine T.sreg ((50, .bool (!fI)) :: (11, .int .i64 way) :: [(0, .slice (some ⟨gx, ox, none⟩) n c), (1, .slice (some ⟨ga, 0, none⟩) (n + 1) ac), (2, .slice (some ⟨gf, 0, none⟩) n n), (3, .int .i64 (k : Int)), (9, .pointer (some ⟨bx, 0, none⟩)), (10, .pointer (some ⟨bn, 0, none⟩))]) ?_ ?_
  ·
    refine W.op rfl rfl rfl (W.quiet_move rfl rfl) ?_
    refine W.op rfl rfl rfl (W.quiet_move rfl rfl) ?_
    refine W.op rfl rfl rfl (W.quiet_index rfl rfl rfl (by first | exact IXF)) ?_
    refine W.op rfl rfl rfl (W.quiet_load rfl rfl (by first | exact LF)) ?_
    refine W.op rfl rfl rfl (W.quiet_not rfl rfl) ?_
    exact W.nil (fun a h => by (repeat (refine Kn.cons h rfl ?_)); exact h.base)
  refine T.cond rfl (fun hb => ?_) (fun hb => ?_)
  · have hfI' : fI = false := by cases fI <;> simp_all
    have hLL : L = [⟨x.op, x.rd, x.r1, x.r2, way⟩] := by
      rw [hfI'] at hL
      by_cases h3 : x.k = 3
      · rw [if_pos h3] at hL
        simpa using hL.symm
      · have h4 : x.k = 4 := by omega
        rw [if_neg h3, if_pos h4] at hL
        obtain ⟨q0, _, q1, q2, _⟩ := right_4 hr h4
        split at hL
        · rw [q0, q1, q2]; simpa using hL.symm
        · cases hL
    subst hLL
    refine T.tw fun w3 hw3 => ?_
    have rn3 := rn.fr hw3 id
    refine TW.sreg ?_
    refine WL.op rfl rfl rfl (W.quiet_move rfl rfl) ?_
    refine WL.op rfl rfl rfl (W.quiet_field rfl rfl (fun W => fn4 W _ _)) ?_
    refine WL.store rfl rfl rfl rfl rfl (st_int _ _ x.imm way (rn3.cell rfl) (rn3.free _)) ?_
    refine WL.nil ?_
    have rn4 := rn3.set (0 + 4) (.int .i64 way)
    have f4 := fr_set (fx.trans hw3) (b := bn) hbn (0 + 4) (.int .i64 way)
    refine TW.sreg ?_
    refine WL.ld rfl rfl rfl rfl rfl (ld_inst _ _ _ _ _ _ _ _ (rn4.cell rfl) (rn4.cell rfl) (rn4.cell rfl) (rn4.cell rfl) (rn4.cell rfl)) ?_
    refine WL.bslice rfl rfl rfl rfl rfl (bs_1 _ _ _ _ _ _) ?_
    refine WL.op rfl rfl rfl (W.quiet_assign rfl rfl) ?_
    refine WL.nil ?_
    refine TW.rt ?_
    repeat (with_reducible refine Xw.thn (by simp) ?_)
    refine bodyw_ret rfl rfl ?_
    exact ⟨some ⟨_, 0, none⟩, 1, rfl, inAt_one _ _ _ ⟨x.op, x.rd, x.r1, x.r2, way⟩ (Fr.refl _ _), fr_al f4 _, GeA.some f4.size⟩
  have hfI' : fI = true := by cases fI <;> simp_all
  have h3 : x.k = 3 := by have := hF hfI'; unfold isBr at this; rw [hx] at this; simpa using this
  obtain ⟨_, q0, _⟩ := right_3 hr h3
  have hLL : L = [⟨contr x.op, x.rd, x.r1, x.r2, 8⟩, ⟨3, 0, 0, 0, way - 4⟩] := by
    rw [hfI', if_pos h3] at hL
    simp only [if_true] at hL
    split at hL
    · rw [q0]; simpa using hL.symm
    · cases hL
  subst hLL
  refine T.skip ?_
  refine T.tw fun w3 hw3 => ?_
  have rn3 := rn.fr hw3 id
  refine TW.sreg ?_
  refine WL.op rfl rfl rfl (W.quiet_field rfl rfl (fun W => fn0 W _ _)) ?_
  refine WL.ld rfl rfl rfl rfl rfl (ld_int _ _ _ (rn3.cell rfl)) ?_
  refine WL.call (hr := c49 x.op w3) rfl rfl rfl rfl rfl (fun W => cf_con W _) ?_
  rintro e w4 ⟨rfl, hf4⟩
  refine ⟨_, rfl, ?_⟩
  have hf4' : Fr (fun _ => False) w3 w4 := by rw [← hf4]; exact Fr.refl _ _
  have rn4 := rn3.fr (F := fun _ => False) hf4' id
  refine WL.op rfl rfl rfl (W.quiet_field rfl rfl (fun W => fn0 W _ _)) ?_
  refine WL.store rfl rfl rfl rfl rfl (st_int _ _ x.op (contr x.op) (rn4.cell rfl) (rn4.free _)) ?_
  refine WL.nil ?_
  have rn5 : Rw (w4.setCell ⟨bn, 0, none⟩ (.int .i64 (contr x.op))) bn #[.int .i64 (contr x.op), .int .i64 x.rd, .int .i64 x.r1, .int .i64 x.r2, .int .i64 x.imm] 68 := rn4.set 0 (.int .i64 (contr x.op))
  have f5 := fr_set (fx.trans (hw3.trans hf4')) (b := bn) hbn 0 (.int .i64 (contr x.op))
  generalize (w4.setCell ⟨bn, 0, none⟩ (.int .i64 (contr x.op))) = w5 at *
  refine TW.sreg ?_
  refine WL.op rfl rfl rfl (W.quiet_field rfl rfl (fun W => fn4 W _ _)) ?_
  refine WL.store rfl rfl rfl rfl rfl (st_int _ _ x.imm 8 (rn5.cell rfl) (rn5.free _)) ?_
  refine WL.nil ?_
  have rn6 : Rw (w5.setCell ⟨bn, 0 + 4, none⟩ (.int .i64 8)) bn #[.int .i64 (contr x.op), .int .i64 x.rd, .int .i64 x.r1, .int .i64 x.r2, .int .i64 8] 68 := rn5.set (0 + 4) (.int .i64 8)
  have f6 := fr_set f5 (b := bn) hbn (0 + 4) (.int .i64 8)
  generalize (w5.setCell ⟨bn, 0 + 4, none⟩ (.int .i64 8)) = w6 at *
  have B4 := fun xo yo W => bn_sub W xo yo way 4 (by omega) (by omega)
  refine TW.sreg ?_
  have z0 : w6.cell? ⟨bn, 0, none⟩ = some (.int .i64 (contr x.op)) := rn6.cell rfl
  have z1 : w6.cell? ⟨bn, 0 + 1, none⟩ = some (.int .i64 (x.rd)) := rn6.cell rfl
  have z2 : w6.cell? ⟨bn, 0 + 2, none⟩ = some (.int .i64 (x.r1)) := rn6.cell rfl
  have z3 : w6.cell? ⟨bn, 0 + 3, none⟩ = some (.int .i64 (x.r2)) := rn6.cell rfl
  have z4 : w6.cell? ⟨bn, 0 + 4, none⟩ = some (.int .i64 (8)) := rn6.cell rfl
  refine WL.ld rfl rfl rfl rfl rfl (ld_inst _ _ _ _ _ _ _ _ z0 z1 z2 z3 z4) ?_
  refine WL.op rfl rfl rfl (W.quiet_move rfl rfl) ?_
  refine WL.op rfl rfl rfl (W.quiet_bin rfl rfl rfl (B4 _ _)) ?_
  refine WL.gen rfl rfl rfl (fun e h _ => by simp only [execOp, List.map_toArray, List.map_cons, List.map_nil, h (.const (.int .i64 3)) _ rfl, h (.tmp 62) _ rfl, Sem.run_bind, bd_inst2, Result.andThen_ok, Sem.run_pure]; rfl) ?_
  refine WL.gen rfl rfl rfl (fun e h _ => by simp only [execOp, List.map_toArray, List.map_cons, List.map_nil, h (.tmp 60) _ rfl, h (.tmp 63) _ rfl, Sem.run_bind, bs_2, Result.andThen_ok, Sem.run_pure]; rfl) ?_
  refine WL.op rfl rfl rfl (W.quiet_assign rfl rfl) ?_
  refine WL.nil ?_
  refine TW.rt ?_
  repeat (with_reducible refine Xw.thn (by simp) ?_)
  refine bodyw_ret rfl rfl ?_
  exact ⟨some ⟨w6.heap.size, 0, none⟩, 2, rfl, inAt_two w6 _ _ ⟨contr x.op, x.rd, x.r1, x.r2, 8⟩ ⟨3, 0, 0, 0, way - 4⟩ (Fr.refl _ _), fr_al f6 _, GeA.some f6.size⟩
def WH (P : Program) (ops : Array Oper) (S : World → Prop) (N : Nat) (Q : Exit → Act → World → Prop) (fuel : Nat) (listed : Array Bool) (s : List (Nat × Value)) (w : World) : Prop := ∀ a, Kn N s a → wpAnyH P .any ops Q S fuel listed a w
section
variable {P : Program} {ops : Array Oper} {S : World → Prop} {N : Nat} {Q : Exit → Act → World → Prop} {s : List (Nat × Value)} {l : List Oper} {o o' : Oper} {d i i' fuel : Nat} {listed : Array Bool} {w : World} {y : Code} {id : Nat}
theorem TW.sregH (S : World → Prop) (hm : P.follows .mixedOrders = true) (h : WH P l.toArray S N (Exit.then (y.wp P Q) Q) l.toArray.size (Array.replicate l.toArray.size false) s w.drew) : TW P N Q s (.seq (.region id l.toArray true) y) w := TW.seq fun a k => wp_region_held hm (h a k)
theorem TW.regH (S : World → Prop) (hm : P.follows .mixedOrders = true) (h : WH P l.toArray S N Q l.toArray.size (Array.replicate l.toArray.size false) s w.drew) : TW P N Q s (.region id l.toArray true) w := fun a k => wp_region_held hm (h a k)
theorem WH.take {v : Value} (i : Nat) (hi : ops[i]? = some o) (hsel : Region.noSelect ops = true) (hf : Region.free .any ops listed i = true) (hr : (Region.ready .any ops listed).contains i = true) (hQ : ∀ c a (d : Nat) v w, Q (.panic c) (a.put (some d) v) w → Q (.panic c) a w) (hd : o.dst = some d) (hN : Nat.blt d N = true) (hg : gd ops s o = some true) (hS : S w)
    (hy : ∀ a, Kn N s a → ∀ w, S w → (execOp a.eval o).run P w = .ok (.value v) w) (h : WH P ops S N Q fuel (listed.setIfInBounds i true) ((d, v) :: s) w) : WH P ops S N Q (fuel + 1) listed s w := fun a k =>
  wpAnyH_take hi hsel hf hr (fun c a2 w h => hQ c a2 d _ w (by rw [hd] at h; exact h)) (.inl ⟨gd_wanted k hg, hy a k⟩) hS (by rw [hd]; exact h _ (k.put hN _))
abbrev Go1 (P : Program) (ops : Array Oper) (S : World → Prop) (Q : Exit → Act → World → Prop) (fuel : Nat) (listed : Array Bool) : Exit → Act → World → Prop := Exit.then (fun a' w' => S w' ∧ wpAnyH P .any ops Q S fuel listed a' w') Q
theorem wpOp_of_list {K : Act → World → Prop} {a : Act} (hi : ops[i]? = some o) (h : wpList P ops (Exit.then K Q) [o] a w) : wpOp P ops Q i K a w := by
  unfold wpOp
  rw [hi]
  exact h
theorem WH.one (i : Nat) (hr : Region.ready .any ops listed = [i]) (hi : ops[i]? = some o) (h : WL P ops N (Go1 P ops S Q fuel (listed.setIfInBounds i true)) s [o] w) : WH P ops S N Q (fuel + 1) listed s w := fun a k =>
  wpAnyH_all hr (by simp) (fun j hj => by
    have : j = i := by simpa using hj
    subst this
    exact wpOp_of_list hi (h a k))
theorem WH.two (i i' : Nat) (hr : Region.ready .any ops listed = [i, i']) (hi : ops[i]? = some o) (hi' : ops[i']? = some o') (h : WL P ops N (Go1 P ops S Q fuel (listed.setIfInBounds i true)) s [o] w) (h' : WL P ops N (Go1 P ops S Q fuel (listed.setIfInBounds i' true)) s [o'] w) : WH P ops S N Q (fuel + 1) listed s w := fun a k =>
  wpAnyH_all hr (by simp) (fun j hj => by
    have : j = i ∨ j = i' := by simpa using hj
    rcases this with e | e
    · subst e; exact wpOp_of_list hi (h a k)
    · subst e; exact wpOp_of_list hi' (h' a k))
theorem WL.fin (hS : S w) (h : WH P ops S N Q fuel listed s w) : WL P ops N (Go1 P ops S Q fuel listed) s [] w := fun a k => wpList_nil ⟨hS, h a k⟩
theorem WH.done (hr : Region.ready .any ops listed = []) (h : TW P N Q s y w) : WH P ops S N (Exit.then (y.wp P Q) Q) fuel listed s w := fun a k => wpAnyH_done hr (h a k) _
theorem WH.end (hr : Region.ready .any ops listed = []) (h : Xw .normal N Q s w) : WH P ops S N Q fuel listed s w := fun a k => wpAnyH_done hr (h a k) _
theorem RH.move {x : Operand} {v : Value} (hop : o.op = .move x) (hv : ev s x = some v) : ∀ a, Kn N s a → ∀ w, S w → (execOp a.eval o).run P w = .ok (.value v) w := fun a k w _ => by
  unfold execOp
  rw [hop]
  have := k.eval hv
  generalize a.eval = e at *
  simp [go_sem, this]
theorem RH.assign {x : Operand} {v : Value} (hop : o.op = .assign x) (hv : ev s x = some v) : ∀ a, Kn N s a → ∀ w, S w → (execOp a.eval o).run P w = .ok (.value v) w := fun a k w _ => by
  unfold execOp
  rw [hop]
  have := k.eval hv
  generalize a.eval = e at *
  simp [go_sem, this]
theorem RH.field {t : TypeId} {x : Operand} {j : Nat} {u v : Value} (hop : o.op = .fieldAddr t x j) (hu : ev s x = some u) (hr : ∀ w, (Instr.fieldAt t u j).run P w = .ok v w) : ∀ a, Kn N s a → ∀ w, S w → (execOp a.eval o).run P w = .ok (.value v) w := fun a k w _ => by
  unfold execOp
  rw [hop]
  simp only [k.eval hu, Sem.run_bind, hr, Result.andThen_ok, Sem.run_pure]
theorem RH.load {t : TypeId} {x : Operand} {u v : Value} (hop : o.op = .load t x) (hu : ev s x = some u) (hr : ∀ w, S w → (Instr.loadAt t u).run P w = .ok v w) : ∀ a, Kn N s a → ∀ w, S w → (execOp a.eval o).run P w = .ok (.value v) w := fun a k w hw => by
  unfold execOp
  rw [hop]
  simp only [k.eval hu, Sem.run_bind, hr w hw, Result.andThen_ok, Sem.run_pure]
theorem RH.index {t : TypeId} {x y : Operand} {u i v : Value} (hop : o.op = .indexAddr t x y) (hu : ev s x = some u) (hi : ev s y = some i) (hr : ∀ w, (Instr.indexAt t u i).run P w = .ok v w) : ∀ a, Kn N s a → ∀ w, S w → (execOp a.eval o).run P w = .ok (.value v) w := fun a k w _ => by
  unfold execOp
  rw [hop]
  simp only [k.eval hu, k.eval hi, Sem.run_bind, hr, Result.andThen_ok, Sem.run_pure]
theorem RH.extract {x : Operand} {j : Nat} {vs : Array Value} {v : Value} (hop : o.op = .extract x j) (hu : ev s x = some (.tuple vs)) (hv : vs[j]? = some v) : ∀ a, Kn N s a → ∀ w, S w → (execOp a.eval o).run P w = .ok (.value v) w := fun a k w _ => by
  have h1 := k.eval hu
  unfold execOp
  rw [hop]
  generalize a.eval = e at *
  simp [go_sem, h1, hv]
end
end Go.Proofs.Ytnjlcimeaoedcaa
