/-
  The machine (layer 3): what an instruction does, as plain data; a step; a failure; a run.
-/
import Derived.Test.YtipfefkddnogjaaDevE
import Derived.Test.YtipfefkddnogjaaDevO
namespace Go.Proofs.Ytipfefkddnogjaa
open Go.RowKit
set_option linter.unusedVariables false
set_option linter.unusedSimpArgs false
def setR (c : Nat → Int) (r : Nat) (v : Int) : Nat → Int := if r = 0 then c else updN c r v
def readM (s : MSt) (k : Nat) (n : Int) : Int :=
  if n = 1 then le1 (s.data k) else if n = 2 then le2 (s.data k) (s.data (k + 1)) else le4 (s.data k) (s.data (k + 1)) (s.data (k + 2)) (s.data (k + 3))
def inputM (L : Lay) (s : MSt) : Int := if s.c 34 < (L.ins.length : Int) then L.ins.getD (s.c 34).toNat 0 else 0
def loadM (L : Lay) (s : MSt) (op at' : Int) : Option Int :=
  if op = 13 ∧ at' = 536870924 then some (inputM L s)
  else if placeF L.dn at' (sizeF op) = true then some (loadF op (readM s (at' - 268435456).toNat (sizeF op))) else none
def putM (data : Nat → Int) (k : Nat) (n v : Int) : Nat → Int :=
  if n = 1 then updN data k (v % 256)
  else if n = 2 then updN (updN data k (v % 256)) (k + 1) (v / 256 % 256)
  else updN (updN (updN (updN data k (v % 256)) (k + 1) (v / 256 % 256)) (k + 2) (v / 65536 % 256)) (k + 3) (v / 16777216)
def storeM (L : Lay) (s : MSt) (op at' v : Int) : Option MSt :=
  if op = 18 ∧ at' = 536870912 then some { s with c := updN s.c 33 v }
  else if op = 18 ∧ at' = 536870916 then some { s with log := s.log ++ [(s.c 33, v)] }
  else if op = 18 ∧ at' = 536870920 then some { s with c := updN s.c 34 v }
  else if op = 18 ∧ at' = 536870928 then some { s with c := updN (updN s.c 40 1) 41 v }
  else if placeF L.dn at' (sizeF op) = true then some { s with data := putM s.data (at' - 268435456).toNat (sizeF op) v } else none
def wr (n : Int) : Int := n % 4294967296
def exec5 (L : Lay) (op : Int) (rd r1 r2 : Nat) (imm : Int) (s : MSt) : Option MSt :=
  if op = 0 then none
  else if op = 1 then some { s with c := updN (setR s.c rd (imm % 4294967296)) 32 ((s.c 32 + 4) % 4294967296) }
  else if op = 2 then some { s with c := updN (setR s.c rd ((s.c 32 + imm) % 4294967296)) 32 ((s.c 32 + 4) % 4294967296) }
  else if op = 3 then some { s with c := updN (setR s.c rd ((s.c 32 + 4) % 4294967296)) 32 ((s.c 32 + imm) % 4294967296) }
  else if op = 4 then some { s with c := updN (setR s.c rd ((s.c 32 + 4) % 4294967296)) 32 ((s.c r1 + imm) % 4294967296 - (s.c r1 + imm) % 4294967296 % 2) }
  else if op ≤ 10 then some { s with c := updN s.c 32 (if holdsF op (s.c r1) (s.c r2) = true then (s.c 32 + imm) % 4294967296 else (s.c 32 + 4) % 4294967296) }
  else if op ≤ 15 then (loadM L s op ((s.c r1 + imm) % 4294967296)).map fun v => { s with c := updN (setR s.c rd v) 32 ((s.c 32 + 4) % 4294967296) }
  else if op ≤ 18 then (storeM L s op ((s.c r1 + imm) % 4294967296) (s.c r2)).map fun t => { t with c := updN t.c 32 ((s.c 32 + 4) % 4294967296) }
  else some { s with c := updN (setR s.c rd (compF op (s.c r1) (s.c r2) (imm % 4294967296))) 32 ((s.c 32 + 4) % 4294967296) }
def execM (L : Lay) (i : List Int) (s : MSt) : Option MSt := exec5 L (i.getD 0 0) (i.getD 1 0).toNat (i.getD 2 0).toNat (i.getD 3 0).toNat (i.getD 4 0) s
def fetchM (L : Lay) (s : MSt) : List Int := if s.c 32 % 4 = 0 ∧ s.c 32 / 4 < (L.code.length : Int) then L.code.getD (s.c 32 / 4).toNat [] else [0, 0, 0, 0, 0]
def advM (L : Lay) (s : MSt) : MSt :=
  match execM L (fetchM L s) s with
  | some t => { t with c := updN t.c 39 (t.c 39 + 1) }
  | none => { s with c := updN s.c 40 2 }
def failM (s : MSt) : MSt := { s with c := fun o => if o < 35 then 0 else s.c o }
def skipM (st : Int) (l : List Int) : List Int := l.dropWhile fun x => decide (x < st)
def runM (L : Lay) (n : Int) : Nat → List Int → MSt → MSt
  | 0, _, s => s
  | f + 1, l, s =>
    if s.c 40 = 0 ∧ s.c 39 < n then
      match skipM (s.c 39) l with
      | [] => runM L n f [] (advM L s)
      | x :: t => if x = s.c 39 then runM L n f t (advM L (failM s)) else runM L n f (x :: t) (advM L s)
    else s
/-- What a call leaves that turned a machine into s. -/
def Okay (base : Nat) (L : Lay) (lv : Value) (w w' : World) (s : MSt) : Prop :=
  ∃ lv', At base w' L lv' s ∧ Wf base L lv' ∧ Fr (Foot L lv) w w' ∧ (∀ g, lv'.ownBlock = some g → lv.ownBlock = some g ∨ w.heap.size ≤ g)
theorem Okay.quiet {base : Nat} {L : Lay} {lv : Value} {w w' : World} {s : MSt} (h : At base w L lv s) (hw : Wf base L lv) (hf : Fr (fun _ => False) w w') : Okay base L lv w w' s :=
  ⟨lv, h.grown0 hf, hw, hf.mono (fun _ _ f => f.elim), fun g hg => .inl hg⟩
theorem Okay.trans {base : Nat} {L : Lay} {lv : Value} {w w1 w2 : World} {s t : MSt} (h : Okay base L lv w w1 s) (k : ∀ lv1, At base w1 L lv1 s → Wf base L lv1 → Okay base L lv1 w1 w2 t) : Okay base L lv w w2 t := by
  obtain ⟨l1, a1, f1, r1, g1⟩ := h
  obtain ⟨l2, a2, f2, r2, g2⟩ := k l1 a1 f1
  refine ⟨l2, a2, f2, r1.trans' r2 ?_, fun g hg => ?_⟩
  · rintro j hj (e | e | e)
    · exact .inl e
    · exact .inr (.inl e)
    · rcases g1 j e with h | h
      · exact .inr (.inr h)
      · omega
  · rcases g2 g hg with h | h
    · exact g1 g h
    · have := r1.size
      exact .inr (by omega)
/-- The world that is behind a quiet piece. -/
theorem Okay.before {base : Nat} {L : Lay} {lv : Value} {w w1 w2 : World} {s : MSt} (hf : Fr (fun _ => False) w w1) (k : Okay base L lv w1 w2 s) : Okay base L lv w w2 s := by
  obtain ⟨l2, a2, f2, r2, g2⟩ := k
  refine ⟨l2, a2, f2, (hf.mono (fun _ _ f => f.elim)).trans r2, fun g hg => ?_⟩
  rcases g2 g hg with h | h
  · exact .inl h
  · have := hf.size
    exact .inr (by omega)
theorem Okay.setNum {base : Nat} {L : Lay} {lv : Value} {w : World} {s : MSt} (h : At base w L lv s) (hw : Wf base L lv) (o : Nat) (ho : isNum o) (v : Int) (v0 : 0 ≤ v) (v1 : kindAt o = .u32 → v ≤ 4294967295) :
    Okay base L lv w (w.setCell ⟨L.b, o, none⟩ (.int (kindAt o) v)) { s with c := updN s.c o v } :=
  ⟨lv, h.setNum hw o ho v v0 v1, hw, Fr.setCell _ _ _ (.inl rfl), fun g hg => .inl hg⟩
theorem Okay.setByte {base : Nat} {L : Lay} {lv : Value} {w : World} {s : MSt} (h : At base w L lv s) (hw : Wf base L lv) (k : Nat) (hk : k < L.dn) (v : Int) (v0 : 0 ≤ v ∧ v ≤ 255) :
    Okay base L lv w (w.setCell ⟨L.db, L.dof + k, none⟩ (.int .u8 v)) { s with data := updN s.data k v } :=
  ⟨lv, h.setByte hw k hk v v0, hw, Fr.setCell _ _ _ (.inr (.inl rfl)), fun g hg => .inl hg⟩
theorem Okay.drewN {base : Nat} {L : Lay} {lv : Value} {w w' : World} {s : MSt} (h : Okay base L lv w w' s) (n : Nat) : Okay base L lv w (w'.drewN n) s :=
  h.trans fun lv1 a f => Okay.quiet a f ((Fr.refl _ _).drewN n)
end Go.Proofs.Ytipfefkddnogjaa
