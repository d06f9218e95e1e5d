/-
  Tables of types (layer 8): construct. Tables of types (layer 8): Ptr, Array, Open.
-/
import Derived.Test.YtlhkhgkgjdfcgaaQKindG
import Derived.LoopTactic
import Derived.Outline
namespace Go.Proofs.Ytlhkhgkgjdfcgaa
open Go.RowKit
set_option linter.unusedVariables false
set_option linter.unusedSimpArgs false
def sameT (x e : Ent) : Bool := e.kind == x.kind && e.elem == x.elem && e.len == x.len
def madeK (es : List Ent) (x : Ent) : Nat := es.findIdx (sameT x)
def makeV (es : List Ent) (x : Ent) : Value := if madeK es x < es.length then .tuple #[.int .i64 (3 + (madeK es x : Int)), .int .i64 0] else addV es
def makeL (es : List Ent) (x : Ent) : List Ent := if madeK es x < es.length then es else if es.length = 397 then es else es ++ [x]
theorem made_at {es : List Ent} {x : Ent} {k : Nat} (hk : k < es.length) (h : sameT x (es.getD k ent0) = true) (hn : ∀ j, j < k → sameT x (es.getD j ent0) = false) : madeK es x = k := by
  have e : ∀ j (hj : j < es.length), es.getD j ent0 = es[j] := fun j hj => by rw [List.getD_eq_getElem?_getD, List.getElem?_eq_getElem hj]; rfl
  exact (List.findIdx_eq hk).2 ⟨by rw [← e k hk]; exact h, fun j hj => by rw [← e j (by omega)]; exact hn j hj⟩
theorem made_no {es : List Ent} {x : Ent} (hn : ∀ j, j < es.length → sameT x (es.getD j ent0) = false) : madeK es x = es.length := by
  refine List.findIdx_eq_length.2 fun y hx => ?_
  obtain ⟨j, hj, rfl⟩ := List.mem_iff_getElem.1 hx
  have := hn j hj
  rw [List.getD_eq_getElem?_getD, List.getElem?_eq_getElem hj] at this
  exact this
def MakeP (base tb : Nat) (v : Value) (es : List Ent) (x : Ent) (w : World) (r : Ending) (w' : World) : Prop := r = .returned (makeV es x) ∧ TOk base tb v w w' (makeL es x)
theorem makeP_yes {base tb : Nat} {v : Value} {es : List Ent} {x : Ent} {w w' : World} {k : Nat} (ht : TabAt base w tb v es) (hk : k < es.length) (h : sameT x (es.getD k ent0) = true) (hn : ∀ j, j < k → sameT x (es.getD j ent0) = false) (hf : Fr (fun _ => False) w w') :
    MakeP base tb v es x w (.returned (.tuple #[.int .i64 (3 + k), .int .i64 0])) w' := by
  unfold MakeP makeV makeL; rw [made_at hk h hn, if_pos hk, if_pos hk]; exact ⟨rfl, TOk.quiet ht hf⟩
theorem makeP_no {base tb : Nat} {v : Value} {es : List Ent} {x : Ent} {w w1 w' : World} (ht : TabAt base w tb v es) (hn : ∀ j, j < es.length → sameT x (es.getD j ent0) = false) (hf : Fr (fun _ => False) w w1) (hk : TOk base tb v w1 w' (if es.length = 397 then es else es ++ [x])) :
    MakeP base tb v es x w (.returned (addV es)) w' := by
  unfold MakeP makeV makeL; rw [made_no hn, if_neg (by omega), if_neg (by omega)]
  obtain ⟨v', h1, h2, h3⟩ := hk
  exact ⟨rfl, v', h1, (hf.mono (fun _ _ f => f.elim)).trans h2, fun g e => (h3 g e).imp id (fun q => by have := hf.size; omega)⟩
def addA (es : List Ent) : Int := if es.length = 397 then 0 else 3 + es.length
def addB (es : List Ent) : Int := if es.length = 397 then 8 else 0
theorem addV_is (es : List Ent) : addV es = .tuple #[.int .i64 (addA es), .int .i64 (addB es)] := by unfold addV addA addB; split <;> rfl
set_option maxRecDepth 100000 in
set_option maxHeartbeats 4000000 in
theorem construct_of {base : Nat} {w : World} {tb : Nat} {v : Value} {es : List Ent} (h : TabAt base w tb v es) (x : Ent) :
    Calls Try.prog 36 #[.pointer (some ⟨tb, 0, none⟩), .agg #[.int .i64 x.kind, .int .i64 x.elem, .int .i64 x.len, .string x.name, .slice x.fa x.fn x.fc, .int .i64 x.size, .int .i64 x.align]] w (MakeP base tb v es x w) := by
  obtain ⟨a, c, hv, hc⟩ := h.form
  have hf := h.few
  have hx := h.cell
  have HC := Lib.hid hc
  have HY := Lib.hid (fun (k : Nat) (w' : World) => @makeP_yes base tb v es x w w' k h)
  have HNO := Lib.hid (fun (w1 w' : World) => @makeP_no base tb v es x w w1 w' h)
  have HADD : Hid (∀ W, Fr (fun _ => False) w W → Calls Try.prog 39 #[.pointer (some ⟨tb, 0, none⟩), .agg #[.int .i64 x.kind, .int .i64 x.elem, .int .i64 x.len, .string x.name, .slice x.fa x.fn x.fc, .int .i64 x.size, .int .i64 x.align]] W fun r w' => r = .returned (.tuple #[.int .i64 (addA es), .int .i64 (addB es)]) ∧ TOk base tb v W w' (if es.length = 397 then es else es ++ [x])) :=
    Lib.hid (fun W hW => by rw [← addV_is]; exact add_of (h.kept hW id (fun _ _ => id)) x)
  obtain ⟨n, hn⟩ : ∃ n, es.length = n := ⟨_, rfl⟩
  rw [hv, hn] at hx
  rw [hn] at hf
  have HN := Lib.hid hn
  obtain ⟨wI, hwI⟩ : ∃ wI : World, wI = w.alloc (.cells x.vals.toArray 72) := ⟨_, rfl⟩
  obtain ⟨bI, hbI⟩ : ∃ bI : Nat, bI = w.heap.size := ⟨_, rfl⟩
  have hFI : Fr (fun _ => False) w wI := by rw [hwI]; exact fr_al (Fr.refl _ _) _
  have HFI := Lib.hid hFI
  have hI0 := hFI.cell hx id
  have zz : Hid (∀ W, Fr (fun _ => False) wI W → W.cell? ⟨bI, 0, none⟩ = some (.int .i64 x.kind) ∧ W.cell? ⟨bI, 1, none⟩ = some (.int .i64 x.elem) ∧ W.cell? ⟨bI, 2, none⟩ = some (.int .i64 x.len) ∧ W.cell? ⟨bI, 3, none⟩ = some (.string x.name) ∧ W.cell? ⟨bI, 4, none⟩ = some (.slice x.fa x.fn x.fc) ∧ W.cell? ⟨bI, 5, none⟩ = some (.int .i64 x.size) ∧ W.cell? ⟨bI, 6, none⟩ = some (.int .i64 x.align)) := Lib.hid (fun W hW => by
    rw [hbI]
    rw [hwI] at hW
    exact ⟨hW.cell (fcell w _ _ 0 _ rfl) id, hW.cell (fcell w _ _ 1 _ rfl) id, hW.cell (fcell w _ _ 2 _ rfl) id, hW.cell (fcell w _ _ 3 _ rfl) id, hW.cell (fcell w _ _ 4 _ rfl) id, hW.cell (fcell w _ _ 5 _ rfl) id, hW.cell (fcell w _ _ 6 _ rfl) id⟩)
  have hwI' : wI = w.alloc (.cells #[.int .i64 x.kind, .int .i64 x.elem, .int .i64 x.len, .string x.name, .slice x.fa x.fn x.fc, .int .i64 x.size, .int .i64 x.align] 72) := hwI
  have HWI := Lib.hid hwI'
  have HBI := Lib.hid hbI
  have hA0 : ∀ o : Obj, (w.alloc o).cell? ⟨tb, 0, none⟩ = some (.slice a n c) := fun o => (World.grownBy_alloc w o none).cell hx (by simp)
  clear h hc hn hv hwI hwI' hbI hFI hx hI0
  go_enter Try.func36, Try.ntmps36
  go_wp2
  rw [← HWI.out, ← HBI.out]
  clear hA0
  go_loopw [13] (fun q wr => ∃ k : Nat, q = .int .i64 k ∧ k ≤ n ∧ Hid ((∀ j, j < k → sameT x (es.getD j ent0) = false) ∧ Fr (fun _ => False) wI wr)) (fun q _ => n - (intOf q).toNat)
  case atStart => exact ⟨0, rfl, Nat.zero_le _, Lib.hid ⟨fun j hj => by omega, Fr.refl _ _⟩⟩
  case round =>
    obtain ⟨k, rfl, hk, HW⟩ := hrel
    obtain ⟨z0, z1, z2, z3, z4, z5, z6⟩ := zz.out _ HW.out.2
    by_cases hlt : k < n
    · obtain ⟨g, rfl, lg, hcell⟩ := HC.out k (by rw [HN.out]; exact hlt)
      obtain ⟨e, he⟩ : ∃ e, es.getD k ent0 = e := ⟨_, rfl⟩
      rw [he] at hcell
      have HE := Lib.hid he
      have HJ0 : Hid (∀ j, j < 7 → wr.cell? ⟨g, k * 7 + j, none⟩ = e.vals[j]?) := Lib.hid (fun j hj => by
        have h1 : ∃ x, e.vals[j]? = some x := ⟨_, List.getElem?_eq_getElem (by simpa [Ent.vals] using hj)⟩
        obtain ⟨x, h1⟩ := h1
        rw [h1]
        exact (HFI.out.trans HW.out.2).cell ((hcell j hj).trans h1) id)
      have q0 : wr.cell? ⟨g, k * 7, none⟩ = some (.int .i64 e.kind) := HJ0.out 0 (by decide)
      have q1 : wr.cell? ⟨g, k * 7 + 1, none⟩ = some (.int .i64 e.elem) := HJ0.out 1 (by decide)
      have q2 : wr.cell? ⟨g, k * 7 + 2, none⟩ = some (.int .i64 e.len) := HJ0.out 2 (by decide)
      have q3 : wr.cell? ⟨g, k * 7 + 3, none⟩ = some (.string e.name) := HJ0.out 3 (by decide)
      have q4 : wr.cell? ⟨g, k * 7 + 4, none⟩ = some (.slice e.fa e.fn e.fc) := HJ0.out 4 (by decide)
      have q5 : wr.cell? ⟨g, k * 7 + 5, none⟩ = some (.int .i64 e.size) := HJ0.out 5 (by decide)
      have q6 : wr.cell? ⟨g, k * 7 + 6, none⟩ = some (.int .i64 e.align) := HJ0.out 6 (by decide)
      have zA : ∀ o : Obj, (wr.alloc o).cell? ⟨bI, 0, none⟩ = some (.int .i64 x.kind) := fun o => (World.grownBy_alloc wr o none).cell z0 (by simp)
      have zB : ∀ o : Obj, (wr.alloc o).cell? ⟨bI, 1, none⟩ = some (.int .i64 x.elem) := fun o => (World.grownBy_alloc wr o none).cell z1 (by simp)
      have zC : ∀ o : Obj, (wr.alloc o).cell? ⟨bI, 2, none⟩ = some (.int .i64 x.len) := fun o => (World.grownBy_alloc wr o none).cell z2 (by simp)
      have t0 : (0 : Int) ≤ k := by omega
      have t1 : (k : Int) < n := by omega
      have NX : Hid (sameT x (es.getD k ent0) = false → ∀ j, j < k + 1 → sameT x (es.getD j ent0) = false) := Lib.hid (fun hh j hj => by
        by_cases hjk : j < k
        · exact HW.out.1 j hjk
        · obtain rfl : j = k := by omega
          exact hh)
      clear hcell he z0 z1 z2 z3 z4 z5 z6
      by_cases h1 : (e.kind == x.kind) = true
      · by_cases h2 : (e.elem == x.elem) = true
        · by_cases h3 : (e.len == x.len) = true
          · have HI : Hid (sameT x (es.getD k ent0) = true) := Lib.hid (by rw [HE.out]; unfold sameT; rw [h1, h2, h3]; rfl)
            go_wp2
            go_ret2
            exact HY.out k _ (by rw [HN.out]; exact hlt) HI.out HW.out.1 (fr_al (HFI.out.trans HW.out.2) _)
          · have h3' : (e.len == x.len) = false := by simpa using h3
            have HI : Hid (sameT x (es.getD k ent0) = false) := Lib.hid (by rw [HE.out]; unfold sameT; rw [h3']; simp)
            clear h3
            go_wp2
            go_roundw
            case rel => exact ⟨k + 1, by go_num, by omega, Lib.hid ⟨NX.out HI.out, fr_al HW.out.2 _⟩⟩
            case measure => simp [intOf]; omega
        · have h2' : (e.elem == x.elem) = false := by simpa using h2
          have HI : Hid (sameT x (es.getD k ent0) = false) := Lib.hid (by rw [HE.out]; unfold sameT; rw [h2']; simp)
          clear h2
          go_wp2
          go_roundw
          case rel => exact ⟨k + 1, by go_num, by omega, Lib.hid ⟨NX.out HI.out, fr_al HW.out.2 _⟩⟩
          case measure => simp [intOf]; omega
      · have h1' : (e.kind == x.kind) = false := by simpa using h1
        have HI : Hid (sameT x (es.getD k ent0) = false) := Lib.hid (by rw [HE.out]; unfold sameT; rw [h1']; simp)
        clear h1
        go_wp2
        go_roundw
        case rel => exact ⟨k + 1, by go_num, by omega, Lib.hid ⟨NX.out HI.out, fr_al HW.out.2 _⟩⟩
        case measure => simp [intOf]; omega
    · obtain rfl : n = k := by omega
      go_wp2_with (go_at_call 39; (with_reducible refine (HADD.out _ (HFI.out.trans HW.out.2)).mono ?_); rintro r w2 ⟨rfl, hk2⟩; have HK := Lib.hid hk2; clear hk2)
      go_ret2
      have hh := HNO.out _ _ (by rw [HN.out]; exact HW.out.1) (HFI.out.trans HW.out.2) HK.out
      rw [addV_is] at hh
      exact hh
theorem TOk.before {base tb : Nat} {v : Value} {w w1 w2 : World} {es : List Ent} (hf : Fr (fun _ => False) w w1) (hk : TOk base tb v w1 w2 es) : TOk base tb v w w2 es := by
  obtain ⟨v', h1, h2, h3⟩ := hk
  exact ⟨v', h1, (hf.mono (fun _ _ f => f.elim)).trans h2, fun g e => (h3 g e).imp id (fun q => by have := hf.size; omega)⟩
def makeA (es : List Ent) (x : Ent) : Int := if madeK es x < es.length then 3 + (madeK es x : Int) else addA es
def makeB (es : List Ent) (x : Ent) : Int := if madeK es x < es.length then 0 else addB es
theorem makeV_is (es : List Ent) (x : Ent) : makeV es x = .tuple #[.int .i64 (makeA es x), .int .i64 (makeB es x)] := by unfold makeV makeA makeB; split <;> first | rfl | exact addV_is es
def ptrE (n : Int) : Ent := ⟨3, n, 0, ⟨#[]⟩, none, 0, 0, 4, 4⟩
def arrE (n long : Int) (e : Ent) : Ent := ⟨4, n, long, ⟨#[]⟩, none, 0, 0, long * e.size, e.align⟩
def openE (nm : ByteArray) : Ent := ⟨5, 0, 0, nm, none, 0, 0, 0, 0⟩
theorem entry_ent {base : Nat} {w : World} {tb : Nat} {v : Value} {es : List Ent} (h : TabAt base w tb v es) (n : Int) (e : Ent) (he : entF es n = e) : Hid (∀ W, Fr (fun _ => False) w W → Calls Try.prog 33 #[.pointer (some ⟨tb, 0, none⟩), .int .i64 n] W fun r w' => r = .returned (.tuple #[.agg #[.int .i64 e.kind, .int .i64 e.elem, .int .i64 e.len, .string e.name, .slice e.fa e.fn e.fc, .int .i64 e.size, .int .i64 e.align], .int .i64 (entE es n)]) ∧ Fr (fun _ => False) W w') :=
  Lib.hid (fun W hW => by have := entry_at (h.kept hW id (fun _ _ => id)) n; rw [he] at this; exact this)
theorem entry_nil' (n : Int) : Hid (∀ W, Calls Try.prog 33 #[.pointer none, .int .i64 n] W fun r w' => r = .returned (.tuple #[.agg #[.int .i64 0, .int .i64 0, .int .i64 0, .string ⟨#[]⟩, .slice none 0 0, .int .i64 0, .int .i64 0], .int .i64 1]) ∧ Fr (fun _ => False) W w') :=
  Lib.hid (fun W => entry_nil n W)
theorem ptr_nil (n : Int) (w : World) : Calls Try.prog 25 #[.pointer none, .int .i64 n] w fun r w' => r = .returned (.tuple #[.int .i64 0, .int .i64 1]) ∧ Fr (fun _ => False) w w' := by
  have H := entry_nil' n
  go_enter Try.func25, Try.ntmps25
  go_wp2_with (go_at_call 33; (with_reducible refine (H.out _).mono ?_); rintro r w' ⟨rfl, hf⟩; have HV := Lib.hid hf; clear hf)
  go_ret2
  exact ⟨rfl, fr_al HV.out _⟩
def ptrA (es : List Ent) (n : Int) : Int := if entE es n = 0 then makeA es (ptrE n) else 0
def ptrB (es : List Ent) (n : Int) : Int := if entE es n = 0 then makeB es (ptrE n) else entE es n
def ptrL (es : List Ent) (n : Int) : List Ent := if entE es n = 0 then makeL es (ptrE n) else es
set_option maxHeartbeats 1000000 in
theorem ptr_of {base : Nat} {w : World} {tb : Nat} {v : Value} {es : List Ent} (h : TabAt base w tb v es) (n : Int) :
    Calls Try.prog 25 #[.pointer (some ⟨tb, 0, none⟩), .int .i64 n] w fun r w' => r = .returned (.tuple #[.int .i64 (ptrA es n), .int .i64 (ptrB es n)]) ∧ TOk base tb v w w' (ptrL es n) := by
  obtain ⟨e, he⟩ : ∃ e, entF es n = e := ⟨_, rfl⟩
  have H := entry_ent h n e he
  have HF := Lib.hid (Fr.refl (fun _ => False) w)
  have HQ := Lib.hid (fun W (hW : Fr (fun _ => False) w W) => TOk.quiet h hW)
  have H36 : Hid (∀ W, Fr (fun _ => False) w W → Calls Try.prog 36 #[.pointer (some ⟨tb, 0, none⟩), .agg #[.int .i64 3, .int .i64 n, .int .i64 0, .string ⟨#[]⟩, .slice none 0 0, .int .i64 4, .int .i64 4]] W fun r w' => r = .returned (.tuple #[.int .i64 (makeA es (ptrE n)), .int .i64 (makeB es (ptrE n))]) ∧ TOk base tb v w w' (makeL es (ptrE n))) :=
    Lib.hid (fun W hW => (construct_of (h.kept hW id (fun _ _ => id)) (ptrE n)).mono fun r w' ⟨a, b⟩ => ⟨by rw [← makeV_is]; exact a, TOk.before hW b⟩)
  clear he h
  unfold ptrA ptrB ptrL
  by_cases h0 : entE es n = 0
  · rw [if_pos h0, if_pos h0, if_pos h0]
    rw [h0] at H
    clear h0
    go_enter Try.func25, Try.ntmps25
    go_wp2_with (first
      | (go_at_call 33; (with_reducible refine (H.out _ HF.out).mono ?_); rintro r w' ⟨rfl, hf⟩; have HV := Lib.hid (fr_al hf (.cells (Ent.vals e).toArray 72)); clear hf)
      | (go_at_call 37; (with_reducible refine (pointer_of n _).mono ?_); rintro r w2 ⟨rfl, hf⟩; have HV2 := Lib.hid (HV.out.trans hf); clear hf)
      | (go_at_call 36; (with_reducible refine (H36.out _ HV2.out).mono ?_); rintro r w3 ⟨rfl, hk⟩; have HK := Lib.hid hk; clear hk))
    go_ret2
    exact ⟨rfl, HK.out⟩
  · rw [if_neg h0, if_neg h0, if_neg h0]
    generalize entE es n = er at *
    have hb : (er != 0) = true := by rw [bne_iff_ne]; exact h0
    clear h0
    go_enter Try.func25, Try.ntmps25
    go_wp2_with (go_at_call 33; (with_reducible refine (H.out _ HF.out).mono ?_); rintro r w' ⟨rfl, hf⟩; have HV := Lib.hid (fr_al hf (.cells (Ent.vals e).toArray 72)); clear hf)
    go_ret2
    exact ⟨rfl, HQ.out _ HV.out⟩
end Go.Proofs.Ytlhkhgkgjdfcgaa
