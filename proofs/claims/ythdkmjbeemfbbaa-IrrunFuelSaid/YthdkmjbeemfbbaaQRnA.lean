/-
  Runs (layer 14), plainly: a machine's state, its steps, what holds throughout; more fuel.
-/
import Derived.Test.YthdkmjbeemfbbaaQChkA
import Derived.Test.YthdkmjbeemfbbaaQIrA
namespace Go.Proofs.Ythdkmjbeemfbbaa
open Go.RowKit
set_option linter.unusedVariables false
set_option linter.unusedSimpArgs false
def U32 (x : Int) : Prop := 0 ≤ x ∧ x ≤ 4294967295
theorem U32.ite {p : Prop} [Decidable p] {a b : Int} (ha : U32 a) (hb : U32 b) : U32 (if p then a else b) := by split <;> assumption
theorem irF_in (fn a b : Int) (ha : U32 a) (hb : U32 b) : U32 (irF fn a b) := by
  have M : ∀ x : Int, U32 (x % 4294967296) := fun x => ⟨by omega, by omega⟩
  have B : ∀ o, U32 (bits o .u32 a b) := fun o => wf_u32 (wf_bits o .u32 a b)
  have T : ∀ p, U32 (tr p) := fun p => by cases p <;> exact ⟨by decide, by decide⟩
  have D : U32 (divF a b) := by
    unfold divF
    split
    · exact ⟨by decide, by decide⟩
    · exact M _
  have E : U32 (remF a b) := by
    unfold remF
    split
    · exact ha
    · exact M _
  have N : U32 (4294967295 - a) := by unfold U32 at *; omega
  have Z : U32 0 := ⟨by decide, by decide⟩
  exact .ite (M _) (.ite (M _) (.ite (M (a * b)) (.ite D (.ite E (.ite (B _) (.ite (B _) (.ite (B _) (.ite (M (a * pw b)) (.ite (M (sg a / pw b)) (.ite (T _) (.ite (T _) (.ite (T _) (.ite (T _) (.ite (T _) (.ite (T _) (.ite (M _) (.ite N (.ite (T _) (Z)))))))))))))))))))
/-- A call that stands. -/
structure RCl where
  rg : Nat → Int
  n : Nat
  b : Nat
  i : Nat
  lo : Int
  rd : Int
/-- A run so far. -/
structure RSt where
  me : Nat → Int
  cl : Nat → RCl
  d : Nat
  out : List Int
  ins : Int
  ex : Int
  e : Int
def rupd {α : Type} (f : Nat → α) (k : Nat) (x : α) : Nat → α := fun j => if j = k then x else f j
theorem rupd_same {α : Type} (f : Nat → α) (k : Nat) (x : α) : rupd f k x k = x := if_pos rfl
theorem rupd_ne {α : Type} (f : Nat → α) {k j : Nat} (x : α) (h : j ≠ k) : rupd f k x j = f j := if_neg h
theorem rupd_rupd {α : Type} (f : Nat → α) (k : Nat) (x y : α) : rupd (rupd f k x) k y = rupd f k y := by
  funext j; unfold rupd; by_cases h : j = k <;> simp [h]
def slS (l : List Slt) : List Int := l.map (·.sz)
theorem slS_len (l : List Slt) : (slS l).length = l.length := by simp [slS]
theorem slS_get (l : List Slt) (k : Nat) : (slS l).getD k 0 = (l.getD k slt0).sz := by
  simp only [slS, List.getD_eq_getElem?_getD, List.getElem?_map]
  cases l[k]? <;> rfl
theorem slS_slim {l : List Slt} (h : SltsP l) : Slim (slS l) := fun k hk => by
  rw [slS_get]
  have := h k (by rw [slS_len] at hk; exact hk)
  unfold SltP at this
  omega
def rPr (m : Mdl) (n : Nat) : Prc := m.pr.getD n prc0
def rBk (m : Mdl) (n b : Nat) : Bk := (rPr m n).bl.getD b bk0
def rIn (m : Mdl) (n b i : Nat) : Inn := (rBk m n b).ins.getD i inn0
def rSz (m : Mdl) (n : Nat) : Int := offs (slS (rPr m n).ob) (rPr m n).ob.length
def rFlo (m : Mdl) : Int := 4096 + offs (slS m.gl) m.gl.length
def rTop (x : RSt) : RCl := x.cl (x.d - 1)
def rCl (x : RSt) (c : RCl) : RSt := { x with cl := rupd x.cl (x.d - 1) c }
def rSet (x : RSt) (r v : Int) : RSt := rCl x { rTop x with rg := rupd (rTop x).rg r.toNat v }
def rAt (a off : Int) : Int := (a + off - 268435456) % 4294967296
def rBad (at_ sz : Int) : Prop := 65536 < at_ + sz ∨ at_ % sz ≠ 0
instance (a s : Int) : Decidable (rBad a s) := by unfold rBad; infer_instance
def rNum (me : Nat → Int) (p : Nat) : Nat → Int
  | 0 => 0
  | k + 1 => rNum me p k + me (p + k) * 256 ^ k
def rPut (me : Nat → Int) (p : Nat) (v : Int) (s : Nat) : Nat → Int := fun j => if p ≤ j ∧ j < p + s then v / 256 ^ (j - p) % 256 else me j
def rLo (x : RSt) : Int := if x.d = 0 then 65536 else (rTop x).lo
def rEnter (m : Mdl) (x : RSt) (n : Nat) (args : List Int) (rd : Int) : RSt :=
  if rLo x - rSz m n < rFlo m ∨ x.d = 5000 then { x with e := 8 }
  else { x with cl := rupd x.cl x.d ⟨fun j => args.getD j 0, n, 0, 0, rLo x - rSz m n, rd⟩, d := x.d + 1 }
def rMem (x : RSt) (i : Inn) : RSt :=
  if rBad (rAt ((rTop x).rg i.x2.toNat) i.x6) i.x7 then { x with e := 12 }
  else if i.x0 = 5 then rSet x i.x1 (rNum x.me (rAt ((rTop x).rg i.x2.toNat) i.x6).toNat i.x7.toNat)
  else { x with me := rPut x.me (rAt ((rTop x).rg i.x2.toNat) i.x6).toNat ((rTop x).rg i.x3.toNat) i.x7.toNat }
def rExec (m : Mdl) (inp : List Int) (x : RSt) (i : Inn) : RSt :=
  if i.x0 = 1 then rSet x i.x1 i.u
  else if i.x0 = 2 then rSet x i.x1 ((rTop x).rg i.x2.toNat)
  else if i.x0 = 3 then rSet x i.x1 (irF i.x4 ((rTop x).rg i.x2.toNat) ((rTop x).rg i.x3.toNat))
  else if i.x0 = 4 then rSet x i.x1 (irF i.x4 ((rTop x).rg i.x2.toNat) 0)
  else if i.x0 = 5 ∨ i.x0 = 6 then rMem x i
  else if i.x0 = 7 then rSet x i.x1 ((268435456 + ((rTop x).lo + offs (slS (rPr m (rTop x).n).ob) i.x5.toNat + i.x6)) % 4294967296)
  else if i.x0 = 8 then rSet x i.x1 ((268435456 + (4096 + offs (slS m.gl) i.x5.toNat + i.x6)) % 4294967296)
  else if i.x0 = 9 then rEnter m x i.x5.toNat (i.args.map fun r => (rTop x).rg r.toNat) i.x1
  else if i.x0 = 10 then { x with out := x.out ++ [(rTop x).rg i.x2.toNat] }
  else if i.x0 = 11 then rSet { x with ins := x.ins + 1 } i.x1 (if x.ins < inp.length then inp.getD x.ins.toNat 0 else 0)
  else x
def rVal (m : Mdl) (x : RSt) : Int := if (rBk m (rTop x).n (rTop x).b).a = -1 then 0 else (rTop x).rg (rBk m (rTop x).n (rTop x).b).a.toNat
def rLeave (m : Mdl) (x : RSt) : RSt :=
  if x.d - 1 = 0 then { x with d := x.d - 1, ex := rVal m x % 256 }
  else if (rTop x).rd = -1 then { x with d := x.d - 1 }
  else rSet { x with d := x.d - 1 } (rTop x).rd (rVal m x)
def rJump (x : RSt) (t : Int) : RSt := rCl x { rTop x with b := t.toNat, i := 0 }
def rEnd (m : Mdl) (x : RSt) : RSt :=
  let b := rBk m (rTop x).n (rTop x).b
  if b.en = 1 then rJump x b.t
  else if b.en = 2 then (if (rTop x).rg b.a.toNat = 0 then rJump x b.el else rJump x b.t)
  else if b.en = 3 then rLeave m x
  else x
def rNext (x : RSt) : RSt := rCl x { rTop x with i := (rTop x).i + 1 }
def rStep (m : Mdl) (inp : List Int) (x : RSt) : RSt :=
  if (rTop x).i < (rBk m (rTop x).n (rTop x).b).ins.length then rExec m inp (rNext x) (rIn m (rTop x).n (rTop x).b (rTop x).i) else rEnd m x
def rOn (x : RSt) : Prop := x.e = 0 ∧ 0 < x.d
instance (x : RSt) : Decidable (rOn x) := by unfold rOn; infer_instance
def rRun (m : Mdl) (inp : List Int) : Nat → RSt → RSt
  | 0, x => if rOn x then { x with e := 16 } else x
  | f + 1, x => if rOn x then rRun m inp f (rStep m inp x) else x
/-- The beginning, over a memory. -/
def rBeg (m : Mdl) (me : Nat → Int) : RSt :=
  if 61440 < offs (slS m.gl) m.gl.length then ⟨me, fun _ => ⟨fun _ => 0, 0, 0, 0, 0, -1⟩, 0, [], 0, 0, 8⟩
  else rEnter m ⟨me, fun _ => ⟨fun _ => 0, 0, 0, 0, 0, -1⟩, 0, [], 0, 0, 0⟩ m.mn.toNat [] (-1)
/-- What holds of a call that stands on level k. -/
structure RClW (m : Mdl) (cl : Nat → RCl) (k : Nat) : Prop where
  n : (cl k).n < m.pr.length
  b : (cl k).b < (rPr m (cl k).n).bl.length
  i : (cl k).i ≤ (rBk m (cl k).n (cl k).b).ins.length
  l0 : 4096 ≤ (cl k).lo
  l1 : (cl k).lo ≤ 65536
  rg : ∀ j, U32 ((cl k).rg j)
  rd : 0 < k → 1 ≤ (cl (k - 1)).i ∧ (cl k).rd = (rIn m (cl (k - 1)).n (cl (k - 1)).b ((cl (k - 1)).i - 1)).x1 ∧ ((cl k).rd = -1 ∨ RgP (rPr m (cl (k - 1)).n).rg (cl k).rd)
structure RWf (m : Mdl) (s : Nat) (x : RSt) : Prop where
  d : x.d ≤ 5000
  me : ∀ k, 0 ≤ x.me k ∧ x.me k ≤ 255
  out : ∀ y ∈ x.out, U32 y
  on : x.out.length ≤ s
  i0 : 0 ≤ x.ins
  i1 : x.ins ≤ s
  cl : ∀ k, k < x.d → RClW m x.cl k
  e0 : 0 ≤ x.e
  e1 : x.e ≤ 16
  x0 : 0 ≤ x.ex
  x1 : x.ex ≤ 255
section
variable {m : Mdl} {inp : List Int} {s : Nat} {x : RSt}
theorem RgP.lt {R r : Int} (h : RgP R r) : 0 ≤ r ∧ r.toNat < R.toNat := by unfold RgP at h; omega
theorem rBk_of (hm : MdlP m) {n b : Nat} (hn : n < m.pr.length) (hb : b < (rPr m n).bl.length) : BkP m (rPr m n) (rBk m n b) := (hm.2 n hn).2 b hb
theorem rIn_of (hm : MdlP m) {n b i : Nat} (hn : n < m.pr.length) (hb : b < (rPr m n).bl.length) (hi : i < (rBk m n b).ins.length) : InsM m (rPr m n) (rIn m n b i) := (rBk_of hm hn hb).2 i hi
theorem rOut_of (hm : MdlP m) {n : Nat} (hn : n < m.pr.length) : OutP (rPr m n) := (hm.2 n hn).1
/-- What may be changed in the call that stands on top. -/
theorem RWf.top (h : RWf m s x) (hd : 0 < x.d) : RClW m x.cl (x.d - 1) := h.cl _ (by omega)
theorem RWf.setC (h : RWf m s x) (hd : 0 < x.d) (c : RCl) (hc : c.n = (rTop x).n) (hb : c.b < (rPr m c.n).bl.length) (hi : c.i ≤ (rBk m c.n c.b).ins.length) (hl : c.lo = (rTop x).lo) (hr : ∀ j, U32 (c.rg j)) (hrd : c.rd = (rTop x).rd) : RWf m s (rCl x c) := by
  refine ⟨h.d, h.me, h.out, h.on, h.i0, h.i1, fun k hk => ?_, h.e0, h.e1, h.x0, h.x1⟩
  have hk : k < x.d := hk
  have ht := h.top hd
  by_cases e : k = x.d - 1
  · subst e
    have hq : (rCl x c).cl (x.d - 1) = c := rupd_same _ _ _
    have hn : ∀ z, z = x.d - 1 - 1 → 0 < x.d - 1 → (rCl x c).cl z = x.cl z := fun z hz h0 => rupd_ne _ _ (by omega)
    refine ⟨by rw [hq, hc]; exact ht.n, by rw [hq]; exact hb, by rw [hq]; exact hi, by rw [hq, hl]; exact ht.l0, by rw [hq, hl]; exact ht.l1, by rw [hq]; exact hr, fun h0 => ?_⟩
    rw [hq, hn _ rfl h0, hrd]
    exact ht.rd h0
  · have hq : (rCl x c).cl k = x.cl k := rupd_ne _ _ e
    have hc2 := h.cl k hk
    refine ⟨by rw [hq]; exact hc2.n, by rw [hq]; exact hc2.b, by rw [hq]; exact hc2.i, by rw [hq]; exact hc2.l0, by rw [hq]; exact hc2.l1, by rw [hq]; exact hc2.rg, fun h0 => ?_⟩
    have hq2 : (rCl x c).cl (k - 1) = x.cl (k - 1) := rupd_ne _ _ (by omega)
    rw [hq, hq2]
    exact hc2.rd h0
theorem RWf.set (h : RWf m s x) (hd : 0 < x.d) (r v : Int) (hv : U32 v) : RWf m s (rSet x r v) := by
  have ht := h.top hd
  refine h.setC hd _ rfl ht.b ht.i rfl (fun j => ?_) rfl
  show U32 (rupd (rTop x).rg r.toNat v j)
  unfold rupd
  split
  · exact hv
  · exact ht.rg j
theorem RWf.err (h : RWf m s x) (e : Int) (h0 : 0 ≤ e) (h1 : e ≤ 16) : RWf m s { x with e := e } := ⟨h.d, h.me, h.out, h.on, h.i0, h.i1, h.cl, h0, h1, h.x0, h.x1⟩
theorem RWf.up (h : RWf m s x) : RWf m (s + 1) x := ⟨h.d, h.me, h.out, Nat.le_succ_of_le h.on, h.i0, by have := h.i1; omega, h.cl, h.e0, h.e1, h.x0, h.x1⟩
theorem RWf.next (h : RWf m s x) (hd : 0 < x.d) (hi : (rTop x).i < (rBk m (rTop x).n (rTop x).b).ins.length) : RWf m s (rNext x) := by
  have ht := h.top hd
  exact h.setC hd _ rfl ht.b hi rfl ht.rg rfl
theorem rNum_in {me : Nat → Int} (h : ∀ k, 0 ≤ me k ∧ me k ≤ 255) (p k : Nat) : 0 ≤ rNum me p k ∧ rNum me p k < 256 ^ k := by
  induction k with
  | zero => simp [rNum]
  | succ k ih =>
    have hk := h (p + k)
    have hp : (0 : Int) < 256 ^ k := Int.pow_pos (by decide)
    have e : (256 : Int) ^ (k + 1) = 256 * 256 ^ k := by rw [Int.pow_succ]; omega
    simp only [rNum]
    rw [e]
    have h1 : 0 ≤ me (p + k) * 256 ^ k := Int.mul_nonneg hk.1 (Int.le_of_lt hp)
    have h2 : me (p + k) * 256 ^ k ≤ 255 * 256 ^ k := Int.mul_le_mul_of_nonneg_right hk.2 (Int.le_of_lt hp)
    omega
theorem rPut_in {me : Nat → Int} (h : ∀ k, 0 ≤ me k ∧ me k ≤ 255) (p : Nat) (v : Int) (z k : Nat) : 0 ≤ rPut me p v z k ∧ rPut me p v z k ≤ 255 := by
  unfold rPut
  split
  · omega
  · exact h k
theorem RWf.enter (hm : MdlP m) (h : RWf m s x) (n : Nat) (hn : n < m.pr.length) (args : List Int) (ha : ∀ y ∈ args, U32 y) (rd : Int)
    (hrd : 0 < x.d → 1 ≤ (rTop x).i ∧ rd = (rIn m (rTop x).n (rTop x).b ((rTop x).i - 1)).x1 ∧ (rd = -1 ∨ RgP (rPr m (rTop x).n).rg rd)) : RWf m s (rEnter m x n args rd) := by
  unfold rEnter
  have ho := rOut_of hm hn
  have hz := offs_in (slS_slim ho.2.2.2.1) (rPr m n).ob.length (by rw [slS_len]; exact Nat.le_refl _)
  have hf := offs_in (slS_slim hm.1.2.2.2.2.2.2.1) m.gl.length (by rw [slS_len]; exact Nat.le_refl _)
  split
  · exact h.err 8 (by decide) (by decide)
  · rename_i hb
    have hb0 : rFlo m ≤ rLo x - rSz m n := by omega
    have hb1 : x.d ≠ 5000 := fun e => hb (.inr e)
    have hlo : rLo x ≤ 65536 := by
      unfold rLo
      split
      · decide
      · exact (h.top (by omega)).l1
    have hd := h.d
    refine ⟨by show x.d + 1 ≤ 5000; omega, h.me, h.out, h.on, h.i0, h.i1, fun k hk => ?_, h.e0, h.e1, h.x0, h.x1⟩
    have hk : k < x.d + 1 := hk
    by_cases e : k = x.d
    · subst e
      have hsz : 0 ≤ rSz m n := hz.1
      obtain ⟨bo, hbo⟩ : ∃ b, b = rLo x - rSz m n := ⟨_, rfl⟩
      rw [← hbo] at hb0 ⊢
      have hq : ∀ c : RCl, rupd x.cl x.d c x.d = c := fun c => rupd_same _ _ _
      constructor <;> simp only [hq]
      · exact hn
      · have := ho.2.2.2.2.1; omega
      · exact Nat.zero_le _
      · unfold rFlo at hb0; omega
      · unfold rSz at *; omega
      · intro j
        by_cases hj : j < args.length
        · rw [List.getD_eq_getElem?_getD, List.getElem?_eq_getElem hj]
          exact ha _ (List.getElem_mem hj)
        · rw [List.getD_eq_getElem?_getD, List.getElem?_eq_none (by omega)]
          exact ⟨by decide, by decide⟩
      · intro h0
        have hn2 : ∀ c : RCl, rupd x.cl x.d c (x.d - 1) = rTop x := fun c => rupd_ne _ _ (by omega)
        simp only [hn2]
        exact hrd h0
    · have hc2 := h.cl k (by omega)
      have hq : ∀ c : RCl, rupd x.cl x.d c k = x.cl k := fun c => rupd_ne _ _ e
      have hq2 : ∀ c : RCl, rupd x.cl x.d c (k - 1) = x.cl (k - 1) := fun c => rupd_ne _ _ (by omega)
      constructor <;> simp only [hq, hq2]
      · exact hc2.n
      · exact hc2.b
      · exact hc2.i
      · exact hc2.l0
      · exact hc2.l1
      · exact hc2.rg
      · exact hc2.rd
set_option maxHeartbeats 1000000 in
theorem RWf.exec (hm : MdlP m) (hinp : ∀ y ∈ inp, U32 y) (h : RWf m s x) (hd : 0 < x.d) (i : Inn) (hi : InsM m (rPr m (rTop x).n) i) (hu : U32 i.u) (h1 : 1 ≤ (rTop x).i) (hq : i = rIn m (rTop x).n (rTop x).b ((rTop x).i - 1)) : RWf m (s + 1) (rExec m inp x i) := by
  have ht := h.top hd
  have hR : ∀ r : Int, U32 ((rTop x).rg r.toNat) := fun r => ht.rg _
  unfold rExec
  split
  · exact (h.set hd _ _ hu).up
  split
  · exact (h.set hd _ _ (hR _)).up
  split
  · exact (h.set hd _ _ (irF_in _ _ _ (hR _) (hR _))).up
  split
  · exact (h.set hd _ _ (irF_in _ _ _ (hR _) ⟨by decide, by decide⟩)).up
  split
  · rename_i h56
    unfold rMem
    split
    · exact (h.err 12 (by decide) (by decide)).up
    · split
      · refine (h.set hd _ _ ?_).up
        obtain ⟨_, _, _, _, _, _, _, _, _, _, _, _, _, _, _, _, _, _, _, _, _, _, _, hs, _⟩ := hi
        have := rNum_in h.me (rAt ((rTop x).rg i.x2.toNat) i.x6).toNat i.x7.toNat
        unfold U32
        rcases hs h56 with e | e <;> rw [e] at this ⊢ <;> simp at this ⊢ <;> omega
      · exact ⟨h.d, rPut_in h.me _ _ _, h.out, Nat.le_succ_of_le h.on, h.i0, by have := h.i1; show x.ins ≤ _; omega, h.cl, h.e0, h.e1, h.x0, h.x1⟩
  split
  · exact (h.set hd _ _ ⟨by omega, by omega⟩).up
  split
  · exact (h.set hd _ _ ⟨by omega, by omega⟩).up
  split
  · rename_i h9
    obtain ⟨_, _, _, _, ho, _, _, _, hd0, hd1, _⟩ := hi
    refine (RWf.enter hm h _ ?_ _ (fun y hy => ?_) _ (fun _ => ⟨h1, by rw [← hq], ?_⟩)).up
    · have := ho h9; omega
    · simp only [List.mem_map] at hy
      obtain ⟨r, _, rfl⟩ := hy
      exact hR r
    · cases hv : calV m i
      · exact .inr (hd0 h9 hv)
      · exact .inl (hd1 h9 hv)
  split
  · refine ⟨h.d, h.me, fun y hy => ?_, by simp only [List.length_append, List.length_singleton]; have := h.on; omega, h.i0, by have := h.i1; show x.ins ≤ _; omega, h.cl, h.e0, h.e1, h.x0, h.x1⟩
    rcases List.mem_append.1 hy with hy | hy
    · exact h.out y hy
    · simp at hy; subst hy; exact hR _
  split
  · have h2 : RWf m (s + 1) { x with ins := x.ins + 1 } := ⟨h.d, h.me, h.out, Nat.le_succ_of_le h.on, by have := h.i0; show 0 ≤ x.ins + 1; omega, by have := h.i1; show x.ins + 1 ≤ _; omega, h.cl, h.e0, h.e1, h.x0, h.x1⟩
    refine h2.set hd _ _ ?_
    split
    · rename_i hl
      have hj : x.ins.toNat < inp.length := by have := h.i0; omega
      rw [List.getD_eq_getElem?_getD, List.getElem?_eq_getElem hj]
      exact hinp _ (List.getElem_mem hj)
    · exact ⟨by decide, by decide⟩
  · exact h.up
theorem RWf.pop (h : RWf m s x) : RWf m s { x with d := x.d - 1 } := ⟨by have := h.d; show x.d - 1 ≤ _; omega, h.me, h.out, h.on, h.i0, h.i1, fun k hk => h.cl k (by have : k < x.d - 1 := hk; omega), h.e0, h.e1, h.x0, h.x1⟩
theorem rVal_in (h : RWf m s x) (hd : 0 < x.d) : U32 (rVal m x) := by
  unfold rVal
  split
  · exact ⟨by decide, by decide⟩
  · exact (h.top hd).rg _
theorem RWf.leave (h : RWf m s x) (hd : 0 < x.d) : RWf m s (rLeave m x) := by
  have hv := rVal_in h hd
  unfold rLeave
  split
  · exact ⟨by have := h.d; show x.d - 1 ≤ _; omega, h.me, h.out, h.on, h.i0, h.i1, fun k hk => h.cl k (by have : k < x.d - 1 := hk; omega), h.e0, h.e1, by show 0 ≤ rVal m x % 256; omega, by show rVal m x % 256 ≤ 255; omega⟩
  · split
    · exact h.pop
    · exact h.pop.set (by show 0 < x.d - 1; omega) _ _ hv
theorem RWf.jump (h : RWf m s x) (hd : 0 < x.d) (t : Int) (ht : 0 ≤ t ∧ t < (rPr m (rTop x).n).bl.length) : RWf m s (rJump x t) :=
  h.setC hd _ rfl (by show t.toNat < (rPr m (rTop x).n).bl.length; omega) (Nat.zero_le _) rfl (h.top hd).rg rfl
theorem RWf.end_ (hm : MdlP m) (h : RWf m s x) (hd : 0 < x.d) : RWf m s (rEnd m x) := by
  have ht := h.top hd
  have hb := (rBk_of hm ht.n ht.b).1
  unfold rEnd
  simp only
  split
  · rename_i h1
    rcases hb with hb | hb | hb
    · exact h.jump hd _ hb.2.2.1
    · exact absurd (hb.1.symm.trans h1) (by decide)
    · exact absurd (hb.1.symm.trans h1) (by decide)
  split
  · rename_i h2
    rcases hb with hb | hb | hb
    · exact absurd (hb.1.symm.trans h2) (by decide)
    · split
      · exact h.jump hd _ hb.2.2.2
      · exact h.jump hd _ hb.2.2.1
    · exact absurd (hb.1.symm.trans h2) (by decide)
  split
  · exact h.leave hd
  · exact h
def MdlU (m : Mdl) : Prop := ∀ n b i, U32 (rIn m n b i).u
theorem RWf.step (hm : MdlP m) (hmu : MdlU m) (hinp : ∀ y ∈ inp, U32 y) (h : RWf m s x) (hd : 0 < x.d) : RWf m (s + 1) (rStep m inp x) := by
  have ht := h.top hd
  unfold rStep
  split
  · rename_i hi
    have hn : rTop (rNext x) = { rTop x with i := (rTop x).i + 1 } := rupd_same _ _ _
    exact RWf.exec hm hinp (h.next hd hi) hd _ (by rw [hn]; exact rIn_of hm ht.n ht.b hi) (hmu _ _ _) (by rw [hn]; show 1 ≤ (rTop x).i + 1; omega) (by rw [hn]; rfl)
  · exact (h.end_ hm hd).up
theorem RWf.beg (hm : MdlP m) (me : Nat → Int) (hme : ∀ k, 0 ≤ me k ∧ me k ≤ 255) : RWf m 0 (rBeg m me) := by
  have h0 : ∀ e : Int, 0 ≤ e → e ≤ 16 → RWf m 0 ⟨me, fun _ => ⟨fun _ => 0, 0, 0, 0, 0, -1⟩, 0, [], 0, 0, e⟩ := fun e a b => ⟨Nat.zero_le _, hme, fun y hy => by simp at hy, Nat.le_refl _, by show (0 : Int) ≤ 0; omega, by show (0 : Int) ≤ _; omega, fun k hk => absurd hk (Nat.not_lt_zero _), a, b, by show (0 : Int) ≤ 0; omega, by show (0 : Int) ≤ 255; omega⟩
  unfold rBeg
  split
  · exact h0 8 (by decide) (by decide)
  · have := hm.1.2.2.2.1
    exact RWf.enter hm (h0 0 (by decide) (by decide)) _ (by omega) [] (fun y hy => by simp at hy) (-1) (fun h => absurd h (Nat.not_lt_zero _))
end
section
variable {m : Mdl} {inp : List Int}
/-- What a step leaves: what was put out stays, the numbers of inputs rise, an exit is told at the end alone. -/
structure RGo (x y : RSt) : Prop where
  out : x.out <+: y.out
  ins : x.ins ≤ y.ins
  ex : x.ex = 0 → y.d = 0 ∨ y.ex = 0
  e : x.e ≠ 16 → y.e ≠ 16
theorem RGo.of {x y : RSt} (h1 : y.out = x.out) (h2 : y.ins = x.ins) (h3 : y.ex = x.ex) (h4 : y.e = x.e ∨ y.e = 8 ∨ y.e = 12) : RGo x y :=
  ⟨h1 ▸ List.prefix_refl _, by omega, fun h => .inr (h3.trans h), fun h => by omega⟩
theorem rgo_exec (x : RSt) (i : Inn) : RGo x (rExec m inp x i) := by
  unfold rExec
  split; · exact .of rfl rfl rfl (.inl rfl)
  split; · exact .of rfl rfl rfl (.inl rfl)
  split; · exact .of rfl rfl rfl (.inl rfl)
  split; · exact .of rfl rfl rfl (.inl rfl)
  split
  · unfold rMem
    split
    · exact .of rfl rfl rfl (.inr (.inr rfl))
    · split <;> exact .of rfl rfl rfl (.inl rfl)
  split; · exact .of rfl rfl rfl (.inl rfl)
  split; · exact .of rfl rfl rfl (.inl rfl)
  split
  · unfold rEnter
    split
    · exact .of rfl rfl rfl (.inr (.inl rfl))
    · exact .of rfl rfl rfl (.inl rfl)
  split
  · exact ⟨List.prefix_append _ _, Int.le_refl _, fun h => .inr h, fun h => h⟩
  split
  · exact ⟨List.prefix_refl _, by show x.ins ≤ x.ins + 1; omega, fun h => .inr h, fun h => h⟩
  · exact .of rfl rfl rfl (.inl rfl)
theorem rgo_step (x : RSt) : RGo x (rStep m inp x) := by
  unfold rStep
  split
  · have := rgo_exec (m := m) (inp := inp) (rNext x) (rIn m (rTop x).n (rTop x).b (rTop x).i)
    exact ⟨this.out, this.ins, this.ex, this.e⟩
  · unfold rEnd
    simp only
    split; · exact .of rfl rfl rfl (.inl rfl)
    split
    · split <;> exact .of rfl rfl rfl (.inl rfl)
    split
    · unfold rLeave
      split
      · rename_i h
        exact ⟨List.prefix_refl _, Int.le_refl _, fun _ => .inl h, fun h => h⟩
      · split <;> exact .of rfl rfl rfl (.inl rfl)
    · exact .of rfl rfl rfl (.inl rfl)
theorem rRun_go (f : Nat) (x : RSt) : x.out <+: (rRun m inp f x).out ∧ x.ins ≤ (rRun m inp f x).ins := by
  induction f generalizing x with
  | zero => simp only [rRun]; split <;> exact ⟨List.prefix_refl _, Int.le_refl _⟩
  | succ f ih =>
    simp only [rRun]
    split
    · have h1 := rgo_step (m := m) (inp := inp) x
      have h2 := ih (rStep m inp x)
      exact ⟨h1.out.trans h2.1, Int.le_trans h1.ins h2.2⟩
    · exact ⟨List.prefix_refl _, Int.le_refl _⟩
theorem rRun_off {x : RSt} (h : ¬rOn x) (f : Nat) : rRun m inp f x = x := by cases f <;> simp [rRun, h]
/-- More fuel: what ended otherwise is the same. -/
theorem rRun_same (f g : Nat) (x : RSt) (h : (rRun m inp f x).e ≠ 16) : rRun m inp (f + g) x = rRun m inp f x := by
  induction f generalizing x with
  | zero =>
    by_cases ho : rOn x
    · simp [rRun, ho] at h
    · rw [rRun_off ho, rRun_off ho]
  | succ f ih =>
    by_cases ho : rOn x
    · rw [show f + 1 + g = f + g + 1 by omega]
      simp only [rRun, if_pos ho] at h ⊢
      exact ih _ h
    · rw [rRun_off ho, rRun_off ho]
/-- More fuel: what was put out begins what is, no fewer inputs are taken. -/
theorem rRun_more (f g : Nat) (x : RSt) : (rRun m inp f x).out <+: (rRun m inp (f + g) x).out ∧ (rRun m inp f x).ins ≤ (rRun m inp (f + g) x).ins := by
  induction f generalizing x with
  | zero =>
    have h := rRun_go (m := m) (inp := inp) (0 + g) x
    simp only [rRun]
    split <;> exact h
  | succ f ih =>
    by_cases ho : rOn x
    · rw [show f + 1 + g = f + g + 1 by omega]
      simp only [rRun, if_pos ho]
      exact ih _
    · rw [rRun_off ho, rRun_off ho]
      exact ⟨List.prefix_refl _, Int.le_refl _⟩
/-- What is out of fuel has no exit. -/
theorem rRun_exit (f : Nat) (x : RSt) (hx : x.d = 0 ∨ x.ex = 0) (he : x.e ≠ 16) (h : (rRun m inp f x).e = 16) : (rRun m inp f x).ex = 0 := by
  induction f generalizing x with
  | zero =>
    by_cases ho : rOn x
    · simp only [rRun, if_pos ho]
      rcases hx with hx | hx
      · exact absurd ho.2 (by omega)
      · exact hx
    · rw [rRun_off ho] at h
      exact absurd h he
  | succ f ih =>
    by_cases ho : rOn x
    · simp only [rRun, if_pos ho] at h ⊢
      have hs := rgo_step (m := m) (inp := inp) x
      refine ih _ ?_ (hs.e he) h
      rcases hx with hx | hx
      · exact absurd ho.2 (by omega)
      · exact hs.ex hx
    · rw [rRun_off ho] at h
      exact absurd h he
theorem rBeg_ex (m : Mdl) (me : Nat → Int) : (rBeg m me).ex = 0 ∧ (rBeg m me).e ≠ 16 ∧ (rBeg m me).ins = 0 ∧ (rBeg m me).out = [] := by
  unfold rBeg
  split
  · exact ⟨rfl, by show (8 : Int) ≠ 16; decide, rfl, rfl⟩
  · unfold rEnter
    split
    · exact ⟨rfl, by show (8 : Int) ≠ 16; decide, rfl, rfl⟩
    · exact ⟨rfl, by show (0 : Int) ≠ 16; decide, rfl, rfl⟩
theorem RWf.run {s : Nat} (hm : MdlP m) (hmu : MdlU m) (hinp : ∀ y ∈ inp, U32 y) (f : Nat) (x : RSt) (h : RWf m s x) : RWf m (s + f) (rRun m inp f x) := by
  induction f generalizing x s with
  | zero =>
    simp only [rRun]
    split
    · exact h.err 16 (by decide) (by decide)
    · exact h
  | succ f ih =>
    simp only [rRun]
    split
    · rename_i ho
      have := ih _ (h.step hm hmu hinp ho.2)
      rw [show s + (f + 1) = s + 1 + f by omega]
      exact this
    · exact ⟨h.d, h.me, h.out, by have := h.on; omega, h.i0, by have := h.i1; omega, h.cl, h.e0, h.e1, h.x0, h.x1⟩
end
end Go.Proofs.Ythdkmjbeemfbbaa
