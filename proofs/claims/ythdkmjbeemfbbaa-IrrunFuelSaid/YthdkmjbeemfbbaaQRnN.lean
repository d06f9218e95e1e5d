/-
  Runs (layer 14): an instruction: constants, copies, functions.
-/
import Derived.Test.YthdkmjbeemfbbaaQRnL
namespace Go.Proofs.Ythdkmjbeemfbbaa
open Go.RowKit
set_option linter.unusedVariables false
set_option linter.unusedSimpArgs false
set_option linter.unnecessarySimpa false
theorem qa_api_Ins_0 (w : World) (b o : Nat) : (Instr.fieldAt 48 (.pointer (some ⟨b, o, none⟩)) 0).run Try.prog w = .ok (.pointer (some ⟨b, o, none⟩)) w := by simp [go_sem]
theorem qa_api_Ins_8 (w : World) (b o : Nat) : (Instr.fieldAt 48 (.pointer (some ⟨b, o, none⟩)) 8).run Try.prog w = .ok (.pointer (some ⟨b, o + 8, none⟩)) w := by simp [go_sem]
theorem qa_api_Ins_2 (w : World) (b o : Nat) : (Instr.fieldAt 48 (.pointer (some ⟨b, o, none⟩)) 2).run Try.prog w = .ok (.pointer (some ⟨b, o + 2, none⟩)) w := by simp [go_sem]
theorem qa_api_Ins_4 (w : World) (b o : Nat) : (Instr.fieldAt 48 (.pointer (some ⟨b, o, none⟩)) 4).run Try.prog w = .ok (.pointer (some ⟨b, o + 4, none⟩)) w := by simp [go_sem]
theorem qa_api_Ins_3 (w : World) (b o : Nat) : (Instr.fieldAt 48 (.pointer (some ⟨b, o, none⟩)) 3).run Try.prog w = .ok (.pointer (some ⟨b, o + 3, none⟩)) w := by simp [go_sem]
theorem qk_irrun_Fn (w : World) (vs : Array Value) : (callFunc 30 vs).run Try.prog w = .ok (.enter 30 vs) w := by simp [go_sem]
theorem RgP.nat {R r : Int} (h : RgP R r) : ∃ n : Nat, r = (n : Int) ∧ n < R.toNat := ⟨r.toNat, by unfold RgP at h; omega, by unfold RgP at h; omega⟩
theorem RM.rg {c : RC} {w : World} {L : RL} {x : RSt} {fu : Int} {d lv r rk : Nat} {ra : Option Addr} (hc : c.ok) (h : RM c w L x fu d) (hk : lv < x.d) (eF : L.F lv 0 = .slice ra (rPr c.m (x.cl lv).n).rg.toNat rk) (hr : r < (rPr c.m (x.cl lv).n).rg.toNat) : ∃ g, ra = some ⟨g, 0, none⟩ ∧ c.w1.heap.size ≤ g ∧ ∀ cb, L.ca = some ⟨cb, 0, none⟩ → cb ≠ g := by
  obtain ⟨g, q, e, hge, _⟩ := RM.putR hc h hk hr
  rw [eF] at e
  injection e with e1 e2 e3
  refine ⟨g, e1, hge, fun cb hcb => ?_⟩
  obtain ⟨cb', e5, h1, h2⟩ := h.r.cb (Nat.lt_of_lt_of_le (Nat.lt_of_le_of_lt (Nat.zero_le _) hk) h.r.dc)
  rw [hcb] at e5
  injection e5 with e5
  injection e5 with e5
  subst e5
  obtain ⟨_, zc, hzc, _⟩ := id h2
  obtain ⟨zr, hzr⟩ := (h.r.rg lv (Nat.lt_of_lt_of_le hk h.r.dc)).1.typ (g := g) (by rw [eF, e1]; rfl)
  exact hzc.ne hzr (by decide)
theorem RM.rc {c : RC} {w : World} {L : RL} {x : RSt} {fu : Int} {d lv r rk g : Nat} (hc : c.ok) (h : RM c w L x fu d) (hk : lv < x.d) (eF : L.F lv 0 = .slice (some ⟨g, 0, none⟩) (rPr c.m (x.cl lv).n).rg.toNat rk) (hr : r < (rPr c.m (x.cl lv).n).rg.toNat) : w.cell? ⟨g, 0 + r, none⟩ = some (.int .u32 ((x.cl lv).rg r)) ∧
    ∀ v, ∃ w', (Instr.storeAt 31 (.pointer (some ⟨g, 0 + r, none⟩)) (.int .u32 v)).run Try.prog w = .ok () w' ∧ (RM c w' L { x with cl := rupd x.cl lv { x.cl lv with rg := rupd (x.cl lv).rg r v } } fu d ∧ Fr (fun q => q = g) w w') := by
  obtain ⟨g', q, e, hge, h1, h2⟩ := RM.putR hc h hk hr
  rw [eF] at e
  injection e with e1 e2 e3
  injection e1 with e1
  injection e1 with e1
  subst e1
  exact ⟨h1, h2⟩
theorem rSet_eq {x : RSt} {lv r : Nat} {d v : Int} (h : x.d = lv + 1) (hr : d = (r : Int)) : rSet x d v = { x with cl := rupd x.cl lv { x.cl lv with rg := rupd (x.cl lv).rg r v } } := by
  unfold rSet rCl
  rw [rTop_k h, hr, show x.d - 1 = lv by omega]
  rfl
theorem ne_nil0 (w : World) (x y : Operand) : ((do eqGuard .neq 51 x y (.slice none 0 0) (.slice none 0 0); binOp .neq 51 (.slice none 0 0) (.slice none 0 0) : Sem Value)).run Try.prog w = .ok (.bool false) w := by kernel_rfl
theorem ne_nil1 (w : World) (x y : Operand) (a : Addr) (n k : Nat) : ((do eqGuard .neq 51 x y (.slice (some a) n k) (.slice none 0 0); binOp .neq 51 (.slice (some a) n k) (.slice none 0 0) : Sem Value)).run Try.prog w = .ok (.bool true) w := by kernel_rfl
theorem t_bytes_bad {c : RC} {L : RL} {x : RSt} {fu : Int} {d gi oi : Nat} (hc : c.ok) (i : Inn) (hi : InsAt c.w0 gi oi i) (a : Int) (p n : Nat) (hp : rAt a i.x6 = (p : Int)) (hp2 : p < 4294967296) (hn : i.x7 = (n : Int)) (hn0 : 0 < n) (hn4 : n ≤ 4) (hb : rBad (rAt a i.x6) i.x7) (w : World) (h : RM c w L x fu d) : Calls Try.prog 31 #[.pointer (some ⟨c.M, 0, none⟩), .int .u32 a, .pointer (some ⟨gi, oi, none⟩)] w fun e w' => e = .returned (.slice none 0 0) ∧ RM c w' L { x with e := 12 } fu d :=
  (t_bytes hc i hi a p n hp hp2 hn hn0 hn4 w h).mono fun e w' hh => by
    rcases hh with ⟨_, h1, h2⟩ | ⟨h1, _⟩
    · exact ⟨h1, h2⟩
    · exact absurd hb h1
theorem t_bytes_ok {c : RC} {L : RL} {x : RSt} {fu : Int} {d gi oi : Nat} (hc : c.ok) (i : Inn) (hi : InsAt c.w0 gi oi i) (a : Int) (p n : Nat) (hp : rAt a i.x6 = (p : Int)) (hp2 : p < 4294967296) (hn : i.x7 = (n : Int)) (hn0 : 0 < n) (hn4 : n ≤ 4) (hb : ¬rBad (rAt a i.x6) i.x7) (w : World) (h : RM c w L x fu d) : Calls Try.prog 31 #[.pointer (some ⟨c.M, 0, none⟩), .int .u32 a, .pointer (some ⟨gi, oi, none⟩)] w fun e w' => e = .returned (.slice (some ⟨c.mb, 0 + p, none⟩) n (65536 - p)) ∧ RM c w' L x fu d :=
  (t_bytes hc i hi a p n hp hp2 hn hn0 hn4 w h).mono fun e w' hh => by
    rcases hh with ⟨h1, _⟩ | ⟨_, h1, h2⟩
    · exact absurd h1 hb
    · exact ⟨h1, h2⟩
theorem RM.app {c : RC} {W : World} {L : RL} {x : RSt} {s : Nat} (hc : c.ok) (h : RA c W L x) (y : Int) (ty : TypeId) (hl : x.out.length ≤ 1000000) : ∃ v' w', (Builtin.append_ #[27, 27] ty #[L.ov, .slice (some ⟨W.heap.size, 0, none⟩) 1 1]).run Try.prog (W.alloc (.cells #[.int .u32 y] 31)) = .ok v' w' ∧ (RA c w' { L with ov := v' } { x with out := x.out ++ [y] } ∧ Fr (fun q => L.ov.ownBlock = some q) W w' ∧ ∃ a k, v' = .slice a (x.out.length + 1) k) := by
  obtain ⟨v', w', hr, h1, h2, h3⟩ := Row.app 27 ty Try.underlying27 info_u32 rfl (by decide) (by decide) (fun _ => rfl) (fun z u hu => by
    simp only [u32C, List.mem_cons, List.not_mem_nil, or_false] at hu
    subst hu
    rfl) y h.out h.f1.size hl rfl
  have hge := h.out.lt
  have hw1 := hc.f01.size
  have hap : ∀ (t : TypeId) (g : Nat) (z : Array Value), Bx W g z t → 31 ≠ t → ¬ L.ov.ownBlock = some g := fun t g z hz ht e => Row.apart_typ h.out hz ht e
  refine ⟨v', w', hr, ⟨h.f0.trans' h2 (fun q hq e => by have := (hge q e).1; omega), h.f1.trans' h2 (fun q hq e => by have := (hge q e).1; omega), ?_, h1, ?_, fun k hk => ⟨(h.rg k hk).1.fr h2 (fun g hg e => h.no k g hk hg e), (h.rg k hk).2⟩, fun k hk => ⟨(h.top k hk).1.fr h2 (fun g hg e => h.no k g (Nat.lt_of_lt_of_le hk h.dc) hg e), (h.top k hk).2⟩, h.dc, h.ne, fun k g hk hg e => ?_⟩, h2, ?_⟩
  · obtain ⟨z, m1, m2, m3⟩ := h.me
    exact ⟨z, m1.fr h2 (hap _ _ z m1 (by decide)), m2, m3⟩
  · rcases h.ca with q | ⟨cb, e, h4, h5⟩
    · exact .inl q
    · refine .inr ⟨cb, e, h4, h5.fr h2 ?_⟩
      obtain ⟨_, zc, hzc, _⟩ := h5
      exact hap _ _ zc hzc (by decide)
  · have e : v'.ownBlock = some g := e
    rcases h3 g e with q | q
    · exact h.no k g hk hg q
    · obtain ⟨zr, hz⟩ := (h.rg k hk).1.typ hg
      have := hz.lt
      omega
  · obtain ⟨a, cap, e⟩ := Row.form h1
    exact ⟨a, cap, by rw [e, List.length_append, List.length_singleton]⟩
theorem rEx1 {m : Mdl} {inp : List Int} {x : RSt} {lv : Nat} {i : Inn} (hd : x.d = lv + 1) (h : i.x0 = 1) : rExec m inp x i = rSet x i.x1 i.u := by
  unfold rExec
  simp [h, rTop_k hd, rArgs, rInp]
theorem rEx2 {m : Mdl} {inp : List Int} {x : RSt} {lv : Nat} {i : Inn} (hd : x.d = lv + 1) (h : i.x0 = 2) : rExec m inp x i = rSet x i.x1 ((x.cl lv).rg i.x2.toNat) := by
  unfold rExec
  simp [h, rTop_k hd, rArgs, rInp]
theorem rEx3 {m : Mdl} {inp : List Int} {x : RSt} {lv : Nat} {i : Inn} (hd : x.d = lv + 1) (h : i.x0 = 3) : rExec m inp x i = rSet x i.x1 (irF i.x4 ((x.cl lv).rg i.x2.toNat) ((x.cl lv).rg i.x3.toNat)) := by
  unfold rExec
  simp [h, rTop_k hd, rArgs, rInp]
theorem rEx4 {m : Mdl} {inp : List Int} {x : RSt} {lv : Nat} {i : Inn} (hd : x.d = lv + 1) (h : i.x0 = 4) : rExec m inp x i = rSet x i.x1 (irF i.x4 ((x.cl lv).rg i.x2.toNat) 0) := by
  unfold rExec
  simp [h, rTop_k hd, rArgs, rInp]
theorem rEx5 {m : Mdl} {inp : List Int} {x : RSt} {lv : Nat} {i : Inn} (hd : x.d = lv + 1) (h : i.x0 = 5) : rExec m inp x i = rMem x i := by
  unfold rExec
  simp [h, rTop_k hd, rArgs, rInp]
theorem rEx6 {m : Mdl} {inp : List Int} {x : RSt} {lv : Nat} {i : Inn} (hd : x.d = lv + 1) (h : i.x0 = 6) : rExec m inp x i = rMem x i := by
  unfold rExec
  simp [h, rTop_k hd, rArgs, rInp]
theorem rEx7 {m : Mdl} {inp : List Int} {x : RSt} {lv : Nat} {i : Inn} (hd : x.d = lv + 1) (h : i.x0 = 7) : rExec m inp x i = rSet x i.x1 ((268435456 + ((x.cl lv).lo + offs (slS (rPr m (x.cl lv).n).ob) i.x5.toNat + i.x6)) % 4294967296) := by
  unfold rExec
  simp [h, rTop_k hd, rArgs, rInp]
theorem rEx8 {m : Mdl} {inp : List Int} {x : RSt} {lv : Nat} {i : Inn} (hd : x.d = lv + 1) (h : i.x0 = 8) : rExec m inp x i = rSet x i.x1 ((268435456 + (4096 + offs (slS m.gl) i.x5.toNat + i.x6)) % 4294967296) := by
  unfold rExec
  simp [h, rTop_k hd, rArgs, rInp]
theorem rEx9 {m : Mdl} {inp : List Int} {x : RSt} {lv : Nat} {i : Inn} (hd : x.d = lv + 1) (h : i.x0 = 9) : rExec m inp x i = rEnter m x i.x5.toNat (rArgs x lv i) i.x1 := by
  unfold rExec
  simp [h, rTop_k hd, rArgs, rInp]
theorem rEx10 {m : Mdl} {inp : List Int} {x : RSt} {lv : Nat} {i : Inn} (hd : x.d = lv + 1) (h : i.x0 = 10) : rExec m inp x i = { x with out := x.out ++ [(x.cl lv).rg i.x2.toNat] } := by
  unfold rExec
  simp [h, rTop_k hd, rArgs, rInp]
theorem rEx11 {m : Mdl} {inp : List Int} {x : RSt} {lv : Nat} {i : Inn} (hd : x.d = lv + 1) (h : i.x0 = 11) : rExec m inp x i = rSet { x with ins := x.ins + 1 } i.x1 (rInp inp x) := by
  unfold rExec
  simp [h, rTop_k hd, rArgs, rInp]
theorem rEx12 {m : Mdl} {inp : List Int} {x : RSt} {lv : Nat} {i : Inn} (hd : x.d = lv + 1) (h : i.x0 = 12) : rExec m inp x i = x := by
  unfold rExec
  simp [h, rTop_k hd, rArgs, rInp]
set_option maxRecDepth 100000 in
theorem t_ex1 {c : RC} {L : RL} {x : RSt} {fu : Int} {s lv cb gi oi : Nat} (hc : c.ok) (hd2 : x.d = lv + 1) (hcb : L.ca = some ⟨cb, 0, none⟩) (i : Inn) (hi : InsAt c.w0 gi oi i) (hiM : InsM c.m (rPr c.m (x.cl lv).n) i) (hu : U32 i.u) (hwf : RWf c.m s x) (hs : s ≤ 100000) (h0 : i.x0 = 1) (w : World) (h : RM c w L x fu x.d) : Calls Try.prog 20 #[.pointer (some ⟨c.M, 0, none⟩), .pointer (some ⟨cb, 0 + lv * 6, none⟩), .pointer (some ⟨gi, oi, none⟩)] w fun e w' => ∃ L', e = .returned (.tuple #[]) ∧ RM c w' L' (rExec c.m c.inp x i) fu (rExec c.m c.inp x i).d := by
  have hk : lv < x.d := by omega
  have hx := h
  have ha := h.r.at_ hc hcb hk
  obtain ⟨ra, rk, eF⟩ := (h.r.top lv hk).1.form
  obtain ⟨p1, p2, pO, pG, pP, pZ, pD, pDn, pDc, pDv, pA, pAn, pB, pBn, pArg, pArn, pL, pF3, pF4, pF0, pU, pOff, pOffn, pSz, pSzn⟩ := id hiM
  have hw0 := hwf.cl lv hk
  obtain ⟨r1, e1, hr1⟩ := RgP.nat (pD (by omega))
  obtain ⟨g, rfl, hg, hcg⟩ := RM.rg hc h hk eF hr1
  have hcbg := hcg cb hcb
  have hm1 := hc.m1
  have hb1 := hc.b1
  have hw01 := hc.f01.size
  refine calls_tw Try.func20 rfl rfl (Nat.le_of_ble_eq_true rfl) ?_
  refine TW.sreg ?_
  refine WL.op rfl rfl rfl (Go.Proofs.Ythdkmjbeemfbbaa.W.quiet_move rfl rfl) ?_
  refine O.nck rfl rfl rfl rfl rfl ?_
  refine WL.op rfl rfl rfl (Go.Proofs.Ythdkmjbeemfbbaa.W.quiet_field rfl rfl (fun W => (qa_irrun_call_0 W _ _))) ?_
  refine WL.ld rfl rfl rfl rfl rfl (ql_irrun_registers _ _ _ _ _ (ha.c0.trans (congrArg some eF))) ?_
  refine WL.op rfl rfl rfl (Go.Proofs.Ythdkmjbeemfbbaa.W.quiet_assign rfl rfl) ?_
  refine WL.nil ?_
  refine TW.sreg ?_
  refine WL.op rfl rfl rfl (Go.Proofs.Ythdkmjbeemfbbaa.W.quiet_move rfl rfl) ?_
  refine O.nck rfl rfl rfl rfl rfl ?_
  refine WL.op rfl rfl rfl (Go.Proofs.Ythdkmjbeemfbbaa.W.quiet_field rfl rfl (fun W => (qa_api_Ins_0 W _ _))) ?_
  refine WL.ld rfl rfl rfl rfl rfl ((ql_int _ _ _ (hx.r.f0.cell hi.1 id)).trans (by rw [h0])) ?_
  refine WL.nil ?_
  refine TW.block ?_
  refine TW.sreg ?_
  refine WL.op rfl rfl rfl (Go.Proofs.Ythdkmjbeemfbbaa.W.quiet_bin rfl rfl rfl (fun W => qb_eql_int W _ _ _ _)) ?_
  refine O.split (fun hb => ?_) (fun hb => by exfalso; revert hb; first | (simp; done) | (simp; omega))
  refine WL.op rfl rfl rfl (Go.Proofs.Ythdkmjbeemfbbaa.W.quiet_assign rfl rfl) ?_
  refine WL.nil ?_
  refine TW.cond rfl (fun _ => ?_) (fun hb => by cases hb)
  have f0g : ∀ W, Fr (fun q => q = g) w W → Fr (fun _ => False) c.w0 W := fun W hW => hx.r.f0.trans' hW (fun q hq e => by omega)
  have f1g : ∀ W, Fr (fun q => q = g) w W → Fr (fun q => q = c.M ∨ q = c.mb) c.w1 W := fun W hW => hx.r.f1.trans' hW (fun q hq e => by omega)
  have hx0 := hx
  refine TW.regH (fun W => Fr (fun q => q = g) w W) (by kernel_rfl) ?_
  have fd : Fr (fun _ => False) w w.drew := (Fr.refl _ _).drewN 1
  have HW : Fr (fun q => q = g) w w.drew := (Fr.refl _ _).drewN 1
  replace hx := hx.fr0 hc fd
  generalize hV : w.drew = V1 at *
  clear hV
  refine WH.take 0 rfl (by kernel_rfl) (by kernel_rfl) (by kernel_rfl) (fun _ _ _ _ _ h => h) rfl rfl rfl HW (RH.move rfl rfl) ?_
  refine WH.take 1 rfl (by kernel_rfl) (by kernel_rfl) (by kernel_rfl) (fun _ _ _ _ _ h => h) rfl rfl rfl HW (RH.move rfl rfl) ?_
  refine WH.take 2 rfl (by kernel_rfl) (by kernel_rfl) (by kernel_rfl) (fun _ _ _ _ _ h => h) rfl rfl rfl HW (RH.nck rfl rfl) ?_
  refine WH.take 3 rfl (by kernel_rfl) (by kernel_rfl) (by kernel_rfl) (fun _ _ _ _ _ h => h) rfl rfl rfl HW (RH.field rfl rfl (fun W => qa_api_Ins_1 W _ _)) ?_
  refine WH.take 4 rfl (by kernel_rfl) (by kernel_rfl) (by kernel_rfl) (fun _ _ _ _ _ h => h) rfl rfl rfl HW (RH.load rfl rfl (fun W hW => ((ql_int _ _ _ ((f0g W hW).cell hi.2.1 id)).trans (by rw [e1])))) ?_
  refine WH.take 5 rfl (by kernel_rfl) (by kernel_rfl) (by kernel_rfl) (fun _ _ _ _ _ h => h) rfl rfl rfl HW (RH.move rfl rfl) ?_
  refine WH.take 6 rfl (by kernel_rfl) (by kernel_rfl) (by kernel_rfl) (fun _ _ _ _ _ h => h) rfl rfl rfl HW (RH.nck rfl rfl) ?_
  refine WH.take 7 rfl (by kernel_rfl) (by kernel_rfl) (by kernel_rfl) (fun _ _ _ _ _ h => h) rfl rfl rfl HW (RH.field rfl rfl (fun W => qa_api_Ins_8 W _ _)) ?_
  refine WH.take 8 rfl (by kernel_rfl) (by kernel_rfl) (by kernel_rfl) (fun _ _ _ _ _ h => h) rfl rfl rfl HW (RH.load rfl rfl (fun W hW => (ql_uint32 _ _ _ ((f0g W hW).cell hi.2.2.2.2.2.2.2.2.1 id)))) ?_
  refine WH.take 9 rfl (by kernel_rfl) (by kernel_rfl) (by kernel_rfl) (fun _ _ _ _ _ h => h) rfl rfl rfl HW (RH.index rfl rfl rfl (fun W => (qi_irrun_registers _ _ _ _ _ _ (by omega)))) ?_
  refine WH.one 10 (by kernel_rfl) rfl ?_ 
  refine O.storeR rfl rfl rfl rfl rfl ((RM.rc hc hx hk eF hr1).2 _) ?_
  rintro w8 ⟨hx8, hf8⟩
  replace HW := HW.trans' hf8 (fun q hq e => e)
  refine WL.fin HW ?_
  refine WH.end (by kernel_rfl) ?_
  refine Xw.nblk ?_
  refine O.end0 rfl ?_
  refine ⟨L, rfl, ?_⟩
  rw [rEx1 hd2 h0, rSet_eq hd2 e1]
  exact hx8
set_option maxRecDepth 100000 in
theorem t_ex2 {c : RC} {L : RL} {x : RSt} {fu : Int} {s lv cb gi oi : Nat} (hc : c.ok) (hd2 : x.d = lv + 1) (hcb : L.ca = some ⟨cb, 0, none⟩) (i : Inn) (hi : InsAt c.w0 gi oi i) (hiM : InsM c.m (rPr c.m (x.cl lv).n) i) (hu : U32 i.u) (hwf : RWf c.m s x) (hs : s ≤ 100000) (h0 : i.x0 = 2) (w : World) (h : RM c w L x fu x.d) : Calls Try.prog 20 #[.pointer (some ⟨c.M, 0, none⟩), .pointer (some ⟨cb, 0 + lv * 6, none⟩), .pointer (some ⟨gi, oi, none⟩)] w fun e w' => ∃ L', e = .returned (.tuple #[]) ∧ RM c w' L' (rExec c.m c.inp x i) fu (rExec c.m c.inp x i).d := by
  have hk : lv < x.d := by omega
  have hx := h
  have ha := h.r.at_ hc hcb hk
  obtain ⟨ra, rk, eF⟩ := (h.r.top lv hk).1.form
  obtain ⟨p1, p2, pO, pG, pP, pZ, pD, pDn, pDc, pDv, pA, pAn, pB, pBn, pArg, pArn, pL, pF3, pF4, pF0, pU, pOff, pOffn, pSz, pSzn⟩ := id hiM
  have hw0 := hwf.cl lv hk
  obtain ⟨r1, e1, hr1⟩ := RgP.nat (pD (by omega))
  obtain ⟨r2, e2, hr2⟩ := RgP.nat (pA (by omega))
  obtain ⟨g, rfl, hg, hcg⟩ := RM.rg hc h hk eF hr1
  have hcbg := hcg cb hcb
  have hm1 := hc.m1
  have hb1 := hc.b1
  have hw01 := hc.f01.size
  refine calls_tw Try.func20 rfl rfl (Nat.le_of_ble_eq_true rfl) ?_
  refine TW.sreg ?_
  refine WL.op rfl rfl rfl (Go.Proofs.Ythdkmjbeemfbbaa.W.quiet_move rfl rfl) ?_
  refine O.nck rfl rfl rfl rfl rfl ?_
  refine WL.op rfl rfl rfl (Go.Proofs.Ythdkmjbeemfbbaa.W.quiet_field rfl rfl (fun W => (qa_irrun_call_0 W _ _))) ?_
  refine WL.ld rfl rfl rfl rfl rfl (ql_irrun_registers _ _ _ _ _ (ha.c0.trans (congrArg some eF))) ?_
  refine WL.op rfl rfl rfl (Go.Proofs.Ythdkmjbeemfbbaa.W.quiet_assign rfl rfl) ?_
  refine WL.nil ?_
  refine TW.sreg ?_
  refine WL.op rfl rfl rfl (Go.Proofs.Ythdkmjbeemfbbaa.W.quiet_move rfl rfl) ?_
  refine O.nck rfl rfl rfl rfl rfl ?_
  refine WL.op rfl rfl rfl (Go.Proofs.Ythdkmjbeemfbbaa.W.quiet_field rfl rfl (fun W => (qa_api_Ins_0 W _ _))) ?_
  refine WL.ld rfl rfl rfl rfl rfl ((ql_int _ _ _ (hx.r.f0.cell hi.1 id)).trans (by rw [h0])) ?_
  refine WL.nil ?_
  refine TW.block ?_
  refine TW.sreg ?_
  refine WL.op rfl rfl rfl (Go.Proofs.Ythdkmjbeemfbbaa.W.quiet_bin rfl rfl rfl (fun W => qb_eql_int W _ _ _ _)) ?_
  refine O.split (fun hb => by exfalso; revert hb; first | (simp; done) | (simp; omega)) (fun hb => ?_)
  refine WL.op rfl rfl rfl (Go.Proofs.Ythdkmjbeemfbbaa.W.quiet_assign rfl rfl) ?_
  refine WL.nil ?_
  refine TW.cond rfl (fun hb => by cases hb) (fun _ => ?_)
  refine TW.sreg ?_
  refine WL.op rfl rfl rfl (Go.Proofs.Ythdkmjbeemfbbaa.W.quiet_bin rfl rfl rfl (fun W => qb_eql_int W _ _ _ _)) ?_
  refine O.split (fun hb => ?_) (fun hb => by exfalso; revert hb; first | (simp; done) | (simp; omega))
  refine WL.op rfl rfl rfl (Go.Proofs.Ythdkmjbeemfbbaa.W.quiet_assign rfl rfl) ?_
  refine WL.nil ?_
  refine TW.cond rfl (fun _ => ?_) (fun hb => by cases hb)
  have f0g : ∀ W, Fr (fun q => q = g) w W → Fr (fun _ => False) c.w0 W := fun W hW => hx.r.f0.trans' hW (fun q hq e => by omega)
  have f1g : ∀ W, Fr (fun q => q = g) w W → Fr (fun q => q = c.M ∨ q = c.mb) c.w1 W := fun W hW => hx.r.f1.trans' hW (fun q hq e => by omega)
  have hx0 := hx
  refine TW.regH (fun W => Fr (fun q => q = g) w W) (by kernel_rfl) ?_
  have fd : Fr (fun _ => False) w w.drew := (Fr.refl _ _).drewN 1
  have HW : Fr (fun q => q = g) w w.drew := (Fr.refl _ _).drewN 1
  replace hx := hx.fr0 hc fd
  generalize hV : w.drew = V1 at *
  clear hV
  refine WH.take 0 rfl (by kernel_rfl) (by kernel_rfl) (by kernel_rfl) (fun _ _ _ _ _ h => h) rfl rfl rfl HW (RH.move rfl rfl) ?_
  refine WH.take 1 rfl (by kernel_rfl) (by kernel_rfl) (by kernel_rfl) (fun _ _ _ _ _ h => h) rfl rfl rfl HW (RH.move rfl rfl) ?_
  refine WH.take 2 rfl (by kernel_rfl) (by kernel_rfl) (by kernel_rfl) (fun _ _ _ _ _ h => h) rfl rfl rfl HW (RH.nck rfl rfl) ?_
  refine WH.take 3 rfl (by kernel_rfl) (by kernel_rfl) (by kernel_rfl) (fun _ _ _ _ _ h => h) rfl rfl rfl HW (RH.field rfl rfl (fun W => qa_api_Ins_1 W _ _)) ?_
  refine WH.take 4 rfl (by kernel_rfl) (by kernel_rfl) (by kernel_rfl) (fun _ _ _ _ _ h => h) rfl rfl rfl HW (RH.load rfl rfl (fun W hW => ((ql_int _ _ _ ((f0g W hW).cell hi.2.1 id)).trans (by rw [e1])))) ?_
  refine WH.take 5 rfl (by kernel_rfl) (by kernel_rfl) (by kernel_rfl) (fun _ _ _ _ _ h => h) rfl rfl rfl HW (RH.move rfl rfl) ?_
  refine WH.take 6 rfl (by kernel_rfl) (by kernel_rfl) (by kernel_rfl) (fun _ _ _ _ _ h => h) rfl rfl rfl HW (RH.move rfl rfl) ?_
  refine WH.take 7 rfl (by kernel_rfl) (by kernel_rfl) (by kernel_rfl) (fun _ _ _ _ _ h => h) rfl rfl rfl HW (RH.nck rfl rfl) ?_
  refine WH.take 8 rfl (by kernel_rfl) (by kernel_rfl) (by kernel_rfl) (fun _ _ _ _ _ h => h) rfl rfl rfl HW (RH.field rfl rfl (fun W => qa_api_Ins_2 W _ _)) ?_
  refine WH.take 9 rfl (by kernel_rfl) (by kernel_rfl) (by kernel_rfl) (fun _ _ _ _ _ h => h) rfl rfl rfl HW (RH.load rfl rfl (fun W hW => ((ql_int _ _ _ ((f0g W hW).cell hi.2.2.1 id)).trans (by rw [e2])))) ?_
  refine WH.take 10 rfl (by kernel_rfl) (by kernel_rfl) (by kernel_rfl) (fun _ _ _ _ _ h => h) rfl rfl rfl HW (RH.index rfl rfl rfl (fun W => (qi_irrun_registers _ _ _ _ _ _ (by omega)))) ?_
  refine WH.one 11 (by kernel_rfl) rfl ?_ 
  refine WL.ld rfl rfl rfl rfl rfl (ql_uint32 _ _ _ (RM.rc hc hx hk eF hr2).1) ?_
  refine WL.fin HW ?_
  refine WH.take 12 rfl (by kernel_rfl) (by kernel_rfl) (by kernel_rfl) (fun _ _ _ _ _ h => h) rfl rfl rfl HW (RH.index rfl rfl rfl (fun W => (qi_irrun_registers _ _ _ _ _ _ (by omega)))) ?_
  refine WH.one 13 (by kernel_rfl) rfl ?_ 
  refine O.storeR rfl rfl rfl rfl rfl ((RM.rc hc hx hk eF hr1).2 _) ?_
  rintro w8 ⟨hx8, hf8⟩
  replace HW := HW.trans' hf8 (fun q hq e => e)
  refine WL.fin HW ?_
  refine WH.end (by kernel_rfl) ?_
  refine Xw.nblk ?_
  refine O.end0 rfl ?_
  refine ⟨L, rfl, ?_⟩
  rw [rEx2 hd2 h0, rSet_eq hd2 e1, e2]
  exact hx8
set_option maxRecDepth 100000 in
theorem t_ex3 {c : RC} {L : RL} {x : RSt} {fu : Int} {s lv cb gi oi : Nat} (hc : c.ok) (hd2 : x.d = lv + 1) (hcb : L.ca = some ⟨cb, 0, none⟩) (i : Inn) (hi : InsAt c.w0 gi oi i) (hiM : InsM c.m (rPr c.m (x.cl lv).n) i) (hu : U32 i.u) (hwf : RWf c.m s x) (hs : s ≤ 100000) (h0 : i.x0 = 3) (w : World) (h : RM c w L x fu x.d) : Calls Try.prog 20 #[.pointer (some ⟨c.M, 0, none⟩), .pointer (some ⟨cb, 0 + lv * 6, none⟩), .pointer (some ⟨gi, oi, none⟩)] w fun e w' => ∃ L', e = .returned (.tuple #[]) ∧ RM c w' L' (rExec c.m c.inp x i) fu (rExec c.m c.inp x i).d := by
  have hk : lv < x.d := by omega
  have hx := h
  have ha := h.r.at_ hc hcb hk
  obtain ⟨ra, rk, eF⟩ := (h.r.top lv hk).1.form
  obtain ⟨p1, p2, pO, pG, pP, pZ, pD, pDn, pDc, pDv, pA, pAn, pB, pBn, pArg, pArn, pL, pF3, pF4, pF0, pU, pOff, pOffn, pSz, pSzn⟩ := id hiM
  have hw0 := hwf.cl lv hk
  obtain ⟨r1, e1, hr1⟩ := RgP.nat (pD (by omega))
  obtain ⟨r2, e2, hr2⟩ := RgP.nat (pA (by omega))
  obtain ⟨r3, e3, hr3⟩ := RgP.nat (pB (by omega))
  obtain ⟨g, rfl, hg, hcg⟩ := RM.rg hc h hk eF hr1
  have hcbg := hcg cb hcb
  have hm1 := hc.m1
  have hb1 := hc.b1
  have hw01 := hc.f01.size
  refine calls_tw Try.func20 rfl rfl (Nat.le_of_ble_eq_true rfl) ?_
  refine TW.sreg ?_
  refine WL.op rfl rfl rfl (Go.Proofs.Ythdkmjbeemfbbaa.W.quiet_move rfl rfl) ?_
  refine O.nck rfl rfl rfl rfl rfl ?_
  refine WL.op rfl rfl rfl (Go.Proofs.Ythdkmjbeemfbbaa.W.quiet_field rfl rfl (fun W => (qa_irrun_call_0 W _ _))) ?_
  refine WL.ld rfl rfl rfl rfl rfl (ql_irrun_registers _ _ _ _ _ (ha.c0.trans (congrArg some eF))) ?_
  refine WL.op rfl rfl rfl (Go.Proofs.Ythdkmjbeemfbbaa.W.quiet_assign rfl rfl) ?_
  refine WL.nil ?_
  refine TW.sreg ?_
  refine WL.op rfl rfl rfl (Go.Proofs.Ythdkmjbeemfbbaa.W.quiet_move rfl rfl) ?_
  refine O.nck rfl rfl rfl rfl rfl ?_
  refine WL.op rfl rfl rfl (Go.Proofs.Ythdkmjbeemfbbaa.W.quiet_field rfl rfl (fun W => (qa_api_Ins_0 W _ _))) ?_
  refine WL.ld rfl rfl rfl rfl rfl ((ql_int _ _ _ (hx.r.f0.cell hi.1 id)).trans (by rw [h0])) ?_
  refine WL.nil ?_
  refine TW.block ?_
  refine TW.sreg ?_
  refine WL.op rfl rfl rfl (Go.Proofs.Ythdkmjbeemfbbaa.W.quiet_bin rfl rfl rfl (fun W => qb_eql_int W _ _ _ _)) ?_
  refine O.split (fun hb => by exfalso; revert hb; first | (simp; done) | (simp; omega)) (fun hb => ?_)
  refine WL.op rfl rfl rfl (Go.Proofs.Ythdkmjbeemfbbaa.W.quiet_assign rfl rfl) ?_
  refine WL.nil ?_
  refine TW.cond rfl (fun hb => by cases hb) (fun _ => ?_)
  refine TW.sreg ?_
  refine WL.op rfl rfl rfl (Go.Proofs.Ythdkmjbeemfbbaa.W.quiet_bin rfl rfl rfl (fun W => qb_eql_int W _ _ _ _)) ?_
  refine O.split (fun hb => by exfalso; revert hb; first | (simp; done) | (simp; omega)) (fun hb => ?_)
  refine WL.op rfl rfl rfl (Go.Proofs.Ythdkmjbeemfbbaa.W.quiet_assign rfl rfl) ?_
  refine WL.nil ?_
  refine TW.cond rfl (fun hb => by cases hb) (fun _ => ?_)
  refine TW.sreg ?_
  refine WL.op rfl rfl rfl (Go.Proofs.Ythdkmjbeemfbbaa.W.quiet_bin rfl rfl rfl (fun W => qb_eql_int W _ _ _ _)) ?_
  refine O.split (fun hb => ?_) (fun hb => by exfalso; revert hb; first | (simp; done) | (simp; omega))
  refine WL.op rfl rfl rfl (Go.Proofs.Ythdkmjbeemfbbaa.W.quiet_assign rfl rfl) ?_
  refine WL.nil ?_
  refine TW.cond rfl (fun _ => ?_) (fun hb => by cases hb)
  have f0g : ∀ W, Fr (fun q => q = g) w W → Fr (fun _ => False) c.w0 W := fun W hW => hx.r.f0.trans' hW (fun q hq e => by omega)
  have f1g : ∀ W, Fr (fun q => q = g) w W → Fr (fun q => q = c.M ∨ q = c.mb) c.w1 W := fun W hW => hx.r.f1.trans' hW (fun q hq e => by omega)
  have hx0 := hx
  refine TW.regH (fun W => Fr (fun q => q = g) w W) (by kernel_rfl) ?_
  have fd : Fr (fun _ => False) w w.drew := (Fr.refl _ _).drewN 1
  have HW : Fr (fun q => q = g) w w.drew := (Fr.refl _ _).drewN 1
  replace hx := hx.fr0 hc fd
  generalize hV : w.drew = V1 at *
  clear hV
  refine WH.take 0 rfl (by kernel_rfl) (by kernel_rfl) (by kernel_rfl) (fun _ _ _ _ _ h => h) rfl rfl rfl HW (RH.move rfl rfl) ?_
  refine WH.take 1 rfl (by kernel_rfl) (by kernel_rfl) (by kernel_rfl) (fun _ _ _ _ _ h => h) rfl rfl rfl HW (RH.move rfl rfl) ?_
  refine WH.take 2 rfl (by kernel_rfl) (by kernel_rfl) (by kernel_rfl) (fun _ _ _ _ _ h => h) rfl rfl rfl HW (RH.nck rfl rfl) ?_
  refine WH.take 3 rfl (by kernel_rfl) (by kernel_rfl) (by kernel_rfl) (fun _ _ _ _ _ h => h) rfl rfl rfl HW (RH.field rfl rfl (fun W => qa_api_Ins_1 W _ _)) ?_
  refine WH.take 4 rfl (by kernel_rfl) (by kernel_rfl) (by kernel_rfl) (fun _ _ _ _ _ h => h) rfl rfl rfl HW (RH.load rfl rfl (fun W hW => ((ql_int _ _ _ ((f0g W hW).cell hi.2.1 id)).trans (by rw [e1])))) ?_
  refine WH.take 5 rfl (by kernel_rfl) (by kernel_rfl) (by kernel_rfl) (fun _ _ _ _ _ h => h) rfl rfl rfl HW (RH.move rfl rfl) ?_
  refine WH.take 6 rfl (by kernel_rfl) (by kernel_rfl) (by kernel_rfl) (fun _ _ _ _ _ h => h) rfl rfl rfl HW (RH.nck rfl rfl) ?_
  refine WH.take 7 rfl (by kernel_rfl) (by kernel_rfl) (by kernel_rfl) (fun _ _ _ _ _ h => h) rfl rfl rfl HW (RH.field rfl rfl (fun W => qa_api_Ins_4 W _ _)) ?_
  refine WH.take 8 rfl (by kernel_rfl) (by kernel_rfl) (by kernel_rfl) (fun _ _ _ _ _ h => h) rfl rfl rfl HW (RH.load rfl rfl (fun W hW => (ql_int _ _ _ ((f0g W hW).cell hi.2.2.2.2.1 id)))) ?_
  refine WH.take 9 rfl (by kernel_rfl) (by kernel_rfl) (by kernel_rfl) (fun _ _ _ _ _ h => h) rfl rfl rfl HW (RH.move rfl rfl) ?_
  refine WH.take 10 rfl (by kernel_rfl) (by kernel_rfl) (by kernel_rfl) (fun _ _ _ _ _ h => h) rfl rfl rfl HW (RH.move rfl rfl) ?_
  refine WH.take 11 rfl (by kernel_rfl) (by kernel_rfl) (by kernel_rfl) (fun _ _ _ _ _ h => h) rfl rfl rfl HW (RH.nck rfl rfl) ?_
  refine WH.take 12 rfl (by kernel_rfl) (by kernel_rfl) (by kernel_rfl) (fun _ _ _ _ _ h => h) rfl rfl rfl HW (RH.field rfl rfl (fun W => qa_api_Ins_2 W _ _)) ?_
  refine WH.take 13 rfl (by kernel_rfl) (by kernel_rfl) (by kernel_rfl) (fun _ _ _ _ _ h => h) rfl rfl rfl HW (RH.load rfl rfl (fun W hW => ((ql_int _ _ _ ((f0g W hW).cell hi.2.2.1 id)).trans (by rw [e2])))) ?_
  refine WH.take 14 rfl (by kernel_rfl) (by kernel_rfl) (by kernel_rfl) (fun _ _ _ _ _ h => h) rfl rfl rfl HW (RH.index rfl rfl rfl (fun W => (qi_irrun_registers _ _ _ _ _ _ (by omega)))) ?_
  refine WH.take 16 rfl (by kernel_rfl) (by kernel_rfl) (by kernel_rfl) (fun _ _ _ _ _ h => h) rfl rfl rfl HW (RH.move rfl rfl) ?_
  refine WH.take 17 rfl (by kernel_rfl) (by kernel_rfl) (by kernel_rfl) (fun _ _ _ _ _ h => h) rfl rfl rfl HW (RH.move rfl rfl) ?_
  refine WH.take 18 rfl (by kernel_rfl) (by kernel_rfl) (by kernel_rfl) (fun _ _ _ _ _ h => h) rfl rfl rfl HW (RH.nck rfl rfl) ?_
  refine WH.take 19 rfl (by kernel_rfl) (by kernel_rfl) (by kernel_rfl) (fun _ _ _ _ _ h => h) rfl rfl rfl HW (RH.field rfl rfl (fun W => qa_api_Ins_3 W _ _)) ?_
  refine WH.take 20 rfl (by kernel_rfl) (by kernel_rfl) (by kernel_rfl) (fun _ _ _ _ _ h => h) rfl rfl rfl HW (RH.load rfl rfl (fun W hW => ((ql_int _ _ _ ((f0g W hW).cell hi.2.2.2.1 id)).trans (by rw [e3])))) ?_
  refine WH.take 21 rfl (by kernel_rfl) (by kernel_rfl) (by kernel_rfl) (fun _ _ _ _ _ h => h) rfl rfl rfl HW (RH.index rfl rfl rfl (fun W => (qi_irrun_registers _ _ _ _ _ _ (by omega)))) ?_
  refine WH.two 15 22 (by kernel_rfl) rfl rfl ?_ ?_ 
  · skip
    refine WL.ld rfl rfl rfl rfl rfl (ql_uint32 _ _ _ (RM.rc hc hx hk eF hr2).1) ?_
    refine WL.fin HW ?_
    refine WH.one 22 (by kernel_rfl) rfl ?_ 
    refine WL.ld rfl rfl rfl rfl rfl (ql_uint32 _ _ _ (RM.rc hc hx hk eF hr3).1) ?_
    refine WL.fin HW ?_
    refine WH.one 23 (by kernel_rfl) rfl ?_ 
    refine WL.call (hr := (c30 i.x4 _ _ (hw0.rg _).1 (hw0.rg _).2 (hw0.rg _).1 (hw0.rg _).2 _)) rfl rfl rfl rfl rfl (fun W => qk_irrun_Fn W _) ?_
    rintro e w9 ⟨rfl, f9⟩
    refine ⟨_, rfl, ?_⟩
    replace hx := hx.fr0 hc f9
    replace HW := HW.trans' f9 (fun q hq e => e.elim)
    refine WL.fin HW ?_
    refine WH.take 24 rfl (by kernel_rfl) (by kernel_rfl) (by kernel_rfl) (fun _ _ _ _ _ h => h) rfl rfl rfl HW (RH.index rfl rfl rfl (fun W => (qi_irrun_registers _ _ _ _ _ _ (by omega)))) ?_
    refine WH.one 25 (by kernel_rfl) rfl ?_ 
    refine O.storeR rfl rfl rfl rfl rfl ((RM.rc hc hx hk eF hr1).2 _) ?_
    rintro w8 ⟨hx8, hf8⟩
    replace HW := HW.trans' hf8 (fun q hq e => e)
    refine WL.fin HW ?_
    refine WH.end (by kernel_rfl) ?_
    refine Xw.nblk ?_
    refine O.end0 rfl ?_
    refine ⟨L, rfl, ?_⟩
    rw [rEx3 hd2 h0, rSet_eq hd2 e1, e2, e3]
    exact hx8
  · skip
    refine WL.ld rfl rfl rfl rfl rfl (ql_uint32 _ _ _ (RM.rc hc hx hk eF hr3).1) ?_
    refine WL.fin HW ?_
    refine WH.one 15 (by kernel_rfl) rfl ?_ 
    refine WL.ld rfl rfl rfl rfl rfl (ql_uint32 _ _ _ (RM.rc hc hx hk eF hr2).1) ?_
    refine WL.fin HW ?_
    refine WH.one 23 (by kernel_rfl) rfl ?_ 
    refine WL.call (hr := (c30 i.x4 _ _ (hw0.rg _).1 (hw0.rg _).2 (hw0.rg _).1 (hw0.rg _).2 _)) rfl rfl rfl rfl rfl (fun W => qk_irrun_Fn W _) ?_
    rintro e w9 ⟨rfl, f9⟩
    refine ⟨_, rfl, ?_⟩
    replace hx := hx.fr0 hc f9
    replace HW := HW.trans' f9 (fun q hq e => e.elim)
    refine WL.fin HW ?_
    refine WH.take 24 rfl (by kernel_rfl) (by kernel_rfl) (by kernel_rfl) (fun _ _ _ _ _ h => h) rfl rfl rfl HW (RH.index rfl rfl rfl (fun W => (qi_irrun_registers _ _ _ _ _ _ (by omega)))) ?_
    refine WH.one 25 (by kernel_rfl) rfl ?_ 
    refine O.storeR rfl rfl rfl rfl rfl ((RM.rc hc hx hk eF hr1).2 _) ?_
    rintro w8 ⟨hx8, hf8⟩
    replace HW := HW.trans' hf8 (fun q hq e => e)
    refine WL.fin HW ?_
    refine WH.end (by kernel_rfl) ?_
    refine Xw.nblk ?_
    refine O.end0 rfl ?_
    refine ⟨L, rfl, ?_⟩
    rw [rEx3 hd2 h0, rSet_eq hd2 e1, e2, e3]
    exact hx8
set_option maxRecDepth 100000 in
theorem t_ex4 {c : RC} {L : RL} {x : RSt} {fu : Int} {s lv cb gi oi : Nat} (hc : c.ok) (hd2 : x.d = lv + 1) (hcb : L.ca = some ⟨cb, 0, none⟩) (i : Inn) (hi : InsAt c.w0 gi oi i) (hiM : InsM c.m (rPr c.m (x.cl lv).n) i) (hu : U32 i.u) (hwf : RWf c.m s x) (hs : s ≤ 100000) (h0 : i.x0 = 4) (w : World) (h : RM c w L x fu x.d) : Calls Try.prog 20 #[.pointer (some ⟨c.M, 0, none⟩), .pointer (some ⟨cb, 0 + lv * 6, none⟩), .pointer (some ⟨gi, oi, none⟩)] w fun e w' => ∃ L', e = .returned (.tuple #[]) ∧ RM c w' L' (rExec c.m c.inp x i) fu (rExec c.m c.inp x i).d := by
  have hk : lv < x.d := by omega
  have hx := h
  have ha := h.r.at_ hc hcb hk
  obtain ⟨ra, rk, eF⟩ := (h.r.top lv hk).1.form
  obtain ⟨p1, p2, pO, pG, pP, pZ, pD, pDn, pDc, pDv, pA, pAn, pB, pBn, pArg, pArn, pL, pF3, pF4, pF0, pU, pOff, pOffn, pSz, pSzn⟩ := id hiM
  have hw0 := hwf.cl lv hk
  obtain ⟨r1, e1, hr1⟩ := RgP.nat (pD (by omega))
  obtain ⟨r2, e2, hr2⟩ := RgP.nat (pA (by omega))
  obtain ⟨g, rfl, hg, hcg⟩ := RM.rg hc h hk eF hr1
  have hcbg := hcg cb hcb
  have hm1 := hc.m1
  have hb1 := hc.b1
  have hw01 := hc.f01.size
  refine calls_tw Try.func20 rfl rfl (Nat.le_of_ble_eq_true rfl) ?_
  refine TW.sreg ?_
  refine WL.op rfl rfl rfl (Go.Proofs.Ythdkmjbeemfbbaa.W.quiet_move rfl rfl) ?_
  refine O.nck rfl rfl rfl rfl rfl ?_
  refine WL.op rfl rfl rfl (Go.Proofs.Ythdkmjbeemfbbaa.W.quiet_field rfl rfl (fun W => (qa_irrun_call_0 W _ _))) ?_
  refine WL.ld rfl rfl rfl rfl rfl (ql_irrun_registers _ _ _ _ _ (ha.c0.trans (congrArg some eF))) ?_
  refine WL.op rfl rfl rfl (Go.Proofs.Ythdkmjbeemfbbaa.W.quiet_assign rfl rfl) ?_
  refine WL.nil ?_
  refine TW.sreg ?_
  refine WL.op rfl rfl rfl (Go.Proofs.Ythdkmjbeemfbbaa.W.quiet_move rfl rfl) ?_
  refine O.nck rfl rfl rfl rfl rfl ?_
  refine WL.op rfl rfl rfl (Go.Proofs.Ythdkmjbeemfbbaa.W.quiet_field rfl rfl (fun W => (qa_api_Ins_0 W _ _))) ?_
  refine WL.ld rfl rfl rfl rfl rfl ((ql_int _ _ _ (hx.r.f0.cell hi.1 id)).trans (by rw [h0])) ?_
  refine WL.nil ?_
  refine TW.block ?_
  refine TW.sreg ?_
  refine WL.op rfl rfl rfl (Go.Proofs.Ythdkmjbeemfbbaa.W.quiet_bin rfl rfl rfl (fun W => qb_eql_int W _ _ _ _)) ?_
  refine O.split (fun hb => by exfalso; revert hb; first | (simp; done) | (simp; omega)) (fun hb => ?_)
  refine WL.op rfl rfl rfl (Go.Proofs.Ythdkmjbeemfbbaa.W.quiet_assign rfl rfl) ?_
  refine WL.nil ?_
  refine TW.cond rfl (fun hb => by cases hb) (fun _ => ?_)
  refine TW.sreg ?_
  refine WL.op rfl rfl rfl (Go.Proofs.Ythdkmjbeemfbbaa.W.quiet_bin rfl rfl rfl (fun W => qb_eql_int W _ _ _ _)) ?_
  refine O.split (fun hb => by exfalso; revert hb; first | (simp; done) | (simp; omega)) (fun hb => ?_)
  refine WL.op rfl rfl rfl (Go.Proofs.Ythdkmjbeemfbbaa.W.quiet_assign rfl rfl) ?_
  refine WL.nil ?_
  refine TW.cond rfl (fun hb => by cases hb) (fun _ => ?_)
  refine TW.sreg ?_
  refine WL.op rfl rfl rfl (Go.Proofs.Ythdkmjbeemfbbaa.W.quiet_bin rfl rfl rfl (fun W => qb_eql_int W _ _ _ _)) ?_
  refine O.split (fun hb => by exfalso; revert hb; first | (simp; done) | (simp; omega)) (fun hb => ?_)
  refine WL.op rfl rfl rfl (Go.Proofs.Ythdkmjbeemfbbaa.W.quiet_assign rfl rfl) ?_
  refine WL.nil ?_
  refine TW.cond rfl (fun hb => by cases hb) (fun _ => ?_)
  refine TW.sreg ?_
  refine WL.op rfl rfl rfl (Go.Proofs.Ythdkmjbeemfbbaa.W.quiet_bin rfl rfl rfl (fun W => qb_eql_int W _ _ _ _)) ?_
  refine O.split (fun hb => ?_) (fun hb => by exfalso; revert hb; first | (simp; done) | (simp; omega))
  refine WL.op rfl rfl rfl (Go.Proofs.Ythdkmjbeemfbbaa.W.quiet_assign rfl rfl) ?_
  refine WL.nil ?_
  refine TW.cond rfl (fun _ => ?_) (fun hb => by cases hb)
  have f0g : ∀ W, Fr (fun q => q = g) w W → Fr (fun _ => False) c.w0 W := fun W hW => hx.r.f0.trans' hW (fun q hq e => by omega)
  have f1g : ∀ W, Fr (fun q => q = g) w W → Fr (fun q => q = c.M ∨ q = c.mb) c.w1 W := fun W hW => hx.r.f1.trans' hW (fun q hq e => by omega)
  have hx0 := hx
  refine TW.regH (fun W => Fr (fun q => q = g) w W) (by kernel_rfl) ?_
  have fd : Fr (fun _ => False) w w.drew := (Fr.refl _ _).drewN 1
  have HW : Fr (fun q => q = g) w w.drew := (Fr.refl _ _).drewN 1
  replace hx := hx.fr0 hc fd
  generalize hV : w.drew = V1 at *
  clear hV
  refine WH.take 0 rfl (by kernel_rfl) (by kernel_rfl) (by kernel_rfl) (fun _ _ _ _ _ h => h) rfl rfl rfl HW (RH.move rfl rfl) ?_
  refine WH.take 1 rfl (by kernel_rfl) (by kernel_rfl) (by kernel_rfl) (fun _ _ _ _ _ h => h) rfl rfl rfl HW (RH.move rfl rfl) ?_
  refine WH.take 2 rfl (by kernel_rfl) (by kernel_rfl) (by kernel_rfl) (fun _ _ _ _ _ h => h) rfl rfl rfl HW (RH.nck rfl rfl) ?_
  refine WH.take 3 rfl (by kernel_rfl) (by kernel_rfl) (by kernel_rfl) (fun _ _ _ _ _ h => h) rfl rfl rfl HW (RH.field rfl rfl (fun W => qa_api_Ins_1 W _ _)) ?_
  refine WH.take 4 rfl (by kernel_rfl) (by kernel_rfl) (by kernel_rfl) (fun _ _ _ _ _ h => h) rfl rfl rfl HW (RH.load rfl rfl (fun W hW => ((ql_int _ _ _ ((f0g W hW).cell hi.2.1 id)).trans (by rw [e1])))) ?_
  refine WH.take 5 rfl (by kernel_rfl) (by kernel_rfl) (by kernel_rfl) (fun _ _ _ _ _ h => h) rfl rfl rfl HW (RH.move rfl rfl) ?_
  refine WH.take 6 rfl (by kernel_rfl) (by kernel_rfl) (by kernel_rfl) (fun _ _ _ _ _ h => h) rfl rfl rfl HW (RH.nck rfl rfl) ?_
  refine WH.take 7 rfl (by kernel_rfl) (by kernel_rfl) (by kernel_rfl) (fun _ _ _ _ _ h => h) rfl rfl rfl HW (RH.field rfl rfl (fun W => qa_api_Ins_4 W _ _)) ?_
  refine WH.take 8 rfl (by kernel_rfl) (by kernel_rfl) (by kernel_rfl) (fun _ _ _ _ _ h => h) rfl rfl rfl HW (RH.load rfl rfl (fun W hW => (ql_int _ _ _ ((f0g W hW).cell hi.2.2.2.2.1 id)))) ?_
  refine WH.take 9 rfl (by kernel_rfl) (by kernel_rfl) (by kernel_rfl) (fun _ _ _ _ _ h => h) rfl rfl rfl HW (RH.move rfl rfl) ?_
  refine WH.take 10 rfl (by kernel_rfl) (by kernel_rfl) (by kernel_rfl) (fun _ _ _ _ _ h => h) rfl rfl rfl HW (RH.move rfl rfl) ?_
  refine WH.take 11 rfl (by kernel_rfl) (by kernel_rfl) (by kernel_rfl) (fun _ _ _ _ _ h => h) rfl rfl rfl HW (RH.nck rfl rfl) ?_
  refine WH.take 12 rfl (by kernel_rfl) (by kernel_rfl) (by kernel_rfl) (fun _ _ _ _ _ h => h) rfl rfl rfl HW (RH.field rfl rfl (fun W => qa_api_Ins_2 W _ _)) ?_
  refine WH.take 13 rfl (by kernel_rfl) (by kernel_rfl) (by kernel_rfl) (fun _ _ _ _ _ h => h) rfl rfl rfl HW (RH.load rfl rfl (fun W hW => ((ql_int _ _ _ ((f0g W hW).cell hi.2.2.1 id)).trans (by rw [e2])))) ?_
  refine WH.take 14 rfl (by kernel_rfl) (by kernel_rfl) (by kernel_rfl) (fun _ _ _ _ _ h => h) rfl rfl rfl HW (RH.index rfl rfl rfl (fun W => (qi_irrun_registers _ _ _ _ _ _ (by omega)))) ?_
  refine WH.one 15 (by kernel_rfl) rfl ?_ 
  refine WL.ld rfl rfl rfl rfl rfl (ql_uint32 _ _ _ (RM.rc hc hx hk eF hr2).1) ?_
  refine WL.fin HW ?_
  refine WH.one 16 (by kernel_rfl) rfl ?_ 
  refine WL.call (hr := (c30 i.x4 _ 0 (hw0.rg _).1 (hw0.rg _).2 (by decide) (by decide) _)) rfl rfl rfl rfl rfl (fun W => qk_irrun_Fn W _) ?_
  rintro e w9 ⟨rfl, f9⟩
  refine ⟨_, rfl, ?_⟩
  replace hx := hx.fr0 hc f9
  replace HW := HW.trans' f9 (fun q hq e => e.elim)
  refine WL.fin HW ?_
  refine WH.take 17 rfl (by kernel_rfl) (by kernel_rfl) (by kernel_rfl) (fun _ _ _ _ _ h => h) rfl rfl rfl HW (RH.index rfl rfl rfl (fun W => (qi_irrun_registers _ _ _ _ _ _ (by omega)))) ?_
  refine WH.one 18 (by kernel_rfl) rfl ?_ 
  refine O.storeR rfl rfl rfl rfl rfl ((RM.rc hc hx hk eF hr1).2 _) ?_
  rintro w8 ⟨hx8, hf8⟩
  replace HW := HW.trans' hf8 (fun q hq e => e)
  refine WL.fin HW ?_
  refine WH.end (by kernel_rfl) ?_
  refine Xw.nblk ?_
  refine O.end0 rfl ?_
  refine ⟨L, rfl, ?_⟩
  rw [rEx4 hd2 h0, rSet_eq hd2 e1, e2]
  exact hx8
end Go.Proofs.Ythdkmjbeemfbbaa
