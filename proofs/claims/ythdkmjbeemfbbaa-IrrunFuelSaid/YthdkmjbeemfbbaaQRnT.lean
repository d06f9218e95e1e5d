/-
  Runs (layer 14): what a run starts from; frames; a run that is over.
-/
import Derived.Test.YthdkmjbeemfbbaaQRnR
import Derived.Test.YthdkmjbeemfbbaaQChkH
namespace Go.Proofs.Ythdkmjbeemfbbaa
open Go.RowKit
set_option linter.unusedVariables false
set_option linter.unusedSimpArgs false
set_option linter.unnecessarySimpa false
theorem mdlP_of {m : Mdl} (hf : m.few) (h : MdlF m) : MdlP m := by
  obtain ⟨⟨h1, h2, h3, h4, h5, h6, h7⟩, hp⟩ := h
  have e1 := hf.g
  have e2 := hf.p
  refine ⟨⟨h1, by omega, ⟨h2, by omega⟩, h3, h4, h5, h6, h7⟩, fun k hk => ?_⟩
  obtain ⟨⟨o1, o2, o3, o4⟩, hb⟩ := hp k hk
  have hfp := hf.f k hk
  have e3 := hfp.b
  have e4 := hfp.o
  have e5 := cnt60 _ hfp.f _ (Nat.le_refl _)
  exact ⟨⟨o1, o2, by omega, o3, ⟨o4, by omega⟩, by omega⟩, fun q hq => hb q hq⟩
theorem mdlU_of {m : Mdl} (h : m.wide) : MdlU m := fun n b i => by
  unfold rIn rBk rPr
  have hu : ∀ l : List Inn, (∀ y ∈ l, y.wide) → U32 (l.getD i inn0).u := fun l hl => by
    by_cases hi : i < l.length
    · have := hl _ (getD_memI hi)
      exact ⟨this.u0, this.u1⟩
    · rw [List.getD_eq_getElem?_getD, List.getElem?_eq_none (by omega)]
      exact ⟨by decide, by decide⟩
  apply hu
  intro y hy
  by_cases hn : n < m.pr.length
  · have hp := h.w _ (getD_memP hn)
    by_cases hb : b < (m.pr.getD n prc0).bl.length
    · have hbk : (m.pr.getD n prc0).bl.getD b bk0 ∈ (m.pr.getD n prc0).bl := by
        rw [List.getD_eq_getElem?_getD (l := (m.pr.getD n prc0).bl), List.getElem?_eq_getElem hb]; exact List.getElem_mem _
      exact (hp.w _ hbk).i y hy
    · rw [List.getD_eq_getElem?_getD (l := (m.pr.getD n prc0).bl), List.getElem?_eq_none (by omega)] at hy
      cases hy
  · rw [show m.pr.getD n prc0 = prc0 by rw [List.getD_eq_getElem?_getD, List.getElem?_eq_none (by omega)]; rfl] at hy
    have e0 : (prc0.bl.getD b bk0).ins = [] := by simp [prc0, bk0]
    rw [e0] at hy
    cases hy
theorem blk_few {m : Mdl} (h : m.few) (n b : Nat) : (rBk m n b).ins.length ≤ 1000 := by
  unfold rBk rPr
  by_cases hn : n < m.pr.length
  · have hp := h.f n hn
    by_cases hb : b < (m.pr.getD n prc0).bl.length
    · have := (hp.f b hb).1; omega
    · rw [List.getD_eq_getElem?_getD (l := (m.pr.getD n prc0).bl), List.getElem?_eq_none (by omega)]
      decide
  · rw [show m.pr.getD n prc0 = prc0 by rw [List.getD_eq_getElem?_getD, List.getElem?_eq_none (by omega)]; rfl]
    have e0 : (prc0.bl.getD b bk0).ins = [] := by simp [prc0, bk0]
    rw [e0]
    decide
theorem RH.bmax {P : Program} {S : World → Prop} {N : Nat} {s : List (Nat × Value)} {o : Oper} {x y : Operand} {t t2 : TypeId} {u u2 v : Value} (hop : o.op = .call ⟨.builtin .max, #[x, y], #[t, t2]⟩) (hu : ev s x = some u) (hu2 : ev s y = some u2) (hr : ∀ w, (Builtin.max_ #[t, t2] o.type #[u, u2]).run P w = .ok v w) : ∀ a, Kn N s a → ∀ w, S w → (execOp a.eval o).run P w = .ok (.value v) w := fun a k w _ => by
  have h1 := k.eval hu
  have h2 := k.eval hu2
  unfold execOp
  rw [hop]
  generalize a.eval = e at *
  simp [go_sem, h1, h2, hr]
theorem RH.bmin {P : Program} {S : World → Prop} {N : Nat} {s : List (Nat × Value)} {o : Oper} {x y : Operand} {t t2 : TypeId} {u u2 v : Value} (hop : o.op = .call ⟨.builtin .min, #[x, y], #[t, t2]⟩) (hu : ev s x = some u) (hu2 : ev s y = some u2) (hr : ∀ w, (Builtin.min_ #[t, t2] o.type #[u, u2]).run P w = .ok v w) : ∀ a, Kn N s a → ∀ w, S w → (execOp a.eval o).run P w = .ok (.value v) w := fun a k w _ => by
  have h1 := k.eval hu
  have h2 := k.eval hu2
  unfold execOp
  rw [hop]
  generalize a.eval = e at *
  simp [go_sem, h1, h2, hr]
theorem bmax_f (n : Int) (f : Nat) (h : max n 0 = (f : Int)) (w : World) (ty : TypeId) : (Builtin.max_ #[3, 3] ty #[.int .i64 n, .int .i64 0]).run Try.prog w = .ok (.int .i64 (f : Int)) w := by
  rw [← h]
  by_cases h : n < 0
  · have e : max n 0 = 0 := by omega
    rw [e]; simp [go_sem, Builtin.max_, Builtin.max2]; omega
  · have e : max n 0 = n := by omega
    rw [e]; simp [go_sem, Builtin.max_, Builtin.max2]; omega
theorem bmin_f (f : Nat) (h : f ≤ 10000000) (w : World) (ty : TypeId) : (Builtin.min_ #[3, 3] ty #[.int .i64 (f : Int), .int .i64 10000000]).run Try.prog w = .ok (.int .i64 (f : Int)) w := by
  simp [go_sem, Builtin.min_, Builtin.min2]; omega
theorem info_u8 : (Try.prog.info? 5).map (fun i => (i.zero, i.size, i.bytes)) = some (some (.int .u8 0), 1, 1) := by kernel_rfl
theorem mk_mem (w : World) : (Instr.makeSlice 51 (.int .i64 65536) (.int .i64 65536)).run Try.prog w = .ok (.slice (some ⟨w.heap.size, 0, none⟩) 65536 65536) (w.alloc (.cells (madeCells #[.int .u8 0] 65536) 5)) :=
  run_make_row' 51 5 (.int .u8 0) 1 Try.underlying51 info_u8 rfl .i64 .i64 65536 (by omega) (by omega) w
theorem MB.made {w : World} {g : Nat} (h : Bx w g (madeCells #[.int .u8 0] 65536) 5) : MB w g (fun _ => 0) := ⟨_, h, by rw [size_madeCells], fun k hk => made_get _ _ _ hk⟩
/-- A frame: where its objects lie, how long it is. -/
structure FrE where
  a : Option Addr
  n : Nat
  k : Nat
  z : Int
def frC (x : FrE) : List Value := [.slice x.a x.n x.k, .int .i64 x.z]
theorem frC_len (x : FrE) : (frC x).length = 2 := rfl
def frE0 : FrE := ⟨none, 0, 0, 0⟩
theorem info_frm : (Try.prog.info? 59).map (fun i => (i.zero, i.size, i.bytes)) = some (some (.agg #[.slice none 0 0, .int .i64 0]), 2, 32) := by kernel_rfl
theorem FRow.app {B : Nat} {W : World} {v : Value} {xs : List FrE} (x : FrE) (ty : TypeId) (h : Row B 59 2 frC W v xs) (hB : B ≤ W.heap.size) (hl : xs.length ≤ 1000000) : ∃ v' w', (Builtin.append_ #[52, 52] ty #[v, .slice (some ⟨W.heap.size, 0, none⟩) 1 1]).run Try.prog (W.alloc (.cells #[.slice x.a x.n x.k, .int .i64 x.z] 59)) = .ok v' w' ∧ (Row B 59 2 frC w' v' (xs ++ [x]) ∧ Fr (fun q => v.ownBlock = some q) W w' ∧ ∀ k, v'.ownBlock = some k → v.ownBlock = some k ∨ W.heap.size ≤ k) :=
  Row.app 52 ty Try.underlying52 info_frm rfl (by decide) (by decide) frC_len (fun z u hu => by
    simp only [frC, List.mem_cons, List.not_mem_nil, or_false] at hu
    rcases hu with rfl | rfl <;> rfl) x h hB hl rfl
/-- A frame of procedure q. -/
def FrOk (B : Nat) (w : World) (m : Mdl) (x : FrE) (q : Nat) : Prop := x.n = (rPr m q).ob.length ∧ x.z = rSz m q ∧ Row B 3 1 iR w (.slice x.a x.n x.k) (offL (slS (rPr m q).ob) (rPr m q).ob.length)
theorem FrOk.fr {B q : Nat} {w w' : World} {m : Mdl} {x : FrE} {G : Nat → Prop} (h : FrOk B w m x q) (hf : Fr G w w') (hn : ∀ k, (Value.slice x.a x.n x.k).ownBlock = some k → ¬G k) : FrOk B w' m x q := ⟨h.1, h.2.1, Row.fr h.2.2 hf hn⟩
theorem FrOk.frT {B q g : Nat} {w w' : World} {m : Mdl} {x : FrE} {z : Array Value} {t : TypeId} (h : FrOk B w m x q) (hb : Bx w g z t) (ht : 3 ≠ t) (hf : Fr (fun k => k = g) w w') : FrOk B w' m x q := h.fr hf (fun k hk e => Row.apart_typ h.2.2 hb ht (hk.trans (congrArg some e)))
open Classical in
/-- What a run of a module ends with. -/
noncomputable def rFin (m : Mdl) (dat : List (List Int)) (inp : List Int) (f : Nat) : RSt :=
  if MdlF m then rRun m inp f (rBeg m (rMe (slS m.gl) dat (fun _ => 0) m.gl.length)) else ⟨fun _ => 0, fun _ => ⟨fun _ => 0, 0, 0, 0, 0, -1⟩, 0, [], 0, 0, 3⟩
def RunP (y : RSt) (w : World) (e : Ending) (w' : World) : Prop := ∃ oa oc, e = .returned (.agg #[.slice oa y.out.length oc, .int .i64 y.ins, .int .u32 y.ex, .int .i64 y.e]) ∧ Row w.heap.size 31 1 u32C w' (.slice oa y.out.length oc) y.out ∧ Fr (fun _ => False) w w'
set_option maxRecDepth 100000 in
theorem t_run8 (M : Nat) (ov ins ex ga da pr mn inp fu mem glv fl fr cav : Value) (w : World) (hm : Bx w M #[ov, ins, ex, .int .i64 8, ga, da, pr, mn, inp, fu, mem, glv, fl, fr, cav] 55) : Calls Try.prog 14 #[.pointer (some ⟨M, 0, none⟩)] w fun e w' => e = .returned (.tuple #[]) ∧ w' = w := by
  refine calls_tw Try.func14 rfl rfl (Nat.le_of_ble_eq_true rfl) ?_
  refine TW.block ?_
  refine O.loopX (n := 0) (fun j a W => Kn Try.f14.ntmps [(0, .pointer (some ⟨M, 0, none⟩))] a ∧ W = w) 0 (Nat.zero_le _) (fun a k => ⟨(by (repeat (refine Kn.cons k rfl ?_)); exact k.base), rfl⟩) ?_
  rintro j a wl hj ⟨k1, rfl⟩
  refine TW.app (s := [(0, .pointer (some ⟨M, 0, none⟩))]) ?_ k1
  refine TW.seq ?_
  refine TW.sreg ?_
  refine WL.op rfl rfl rfl (Go.Proofs.Ythdkmjbeemfbbaa.W.quiet_move rfl rfl) ?_
  refine O.nck rfl rfl rfl rfl rfl ?_
  refine WL.op rfl rfl rfl (Go.Proofs.Ythdkmjbeemfbbaa.W.quiet_field rfl rfl (fun W => (qa_irrun_machine_0 W _ _))) ?_
  refine WL.op rfl rfl rfl (Go.Proofs.Ythdkmjbeemfbbaa.W.quiet_field rfl rfl (fun W => (qa_api_Outcome_3 W _ _))) ?_
  refine WL.ld rfl rfl rfl rfl rfl (ql_api_Errno _ _ _ (hm.cell (j := 3) rfl)) ?_
  refine WL.op rfl rfl rfl (Go.Proofs.Ythdkmjbeemfbbaa.W.quiet_bin rfl rfl rfl (fun W => qb_eql_api_Errno W _ _ _ _)) ?_
  refine O.split (fun hb => by exfalso; revert hb; first | (simp; done) | (simp; omega)) (fun hb => ?_)
  refine WL.op rfl rfl rfl (Go.Proofs.Ythdkmjbeemfbbaa.W.quiet_move rfl rfl) ?_
  refine WL.skip rfl rfl rfl ?_
  refine WL.skip rfl rfl rfl ?_
  refine WL.skip rfl rfl rfl ?_
  refine WL.skip rfl rfl rfl ?_
  refine WL.skip rfl rfl rfl ?_
  refine WL.skip rfl rfl rfl ?_
  refine WL.op rfl rfl rfl (Go.Proofs.Ythdkmjbeemfbbaa.W.quiet_pick rfl rfl rfl) ?_
  refine WL.nil ?_
  refine TW.cond rfl (fun hb => by cases hb) (fun _ => ?_)
  refine TW.exit ?_
  refine Xw.thn (by simp) ?_
  refine Xw.thn (by simp) ?_
  refine Xw.hit ?_
  refine O.end0 rfl ?_
  exact ⟨rfl, rfl⟩
end Go.Proofs.Ythdkmjbeemfbbaa
