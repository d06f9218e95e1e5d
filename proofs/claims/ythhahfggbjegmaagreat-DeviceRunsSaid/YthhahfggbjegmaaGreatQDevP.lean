/-
  The machine (layer 3): what an instruction does, as plain data; a step; a failure; a run. The contract of New (layer 3): the machine that it makes lies in the world, or there is none. Runs of a machine (layer 3) as plain data: a run of so many steps is one of fewer, and then of these. New (layer 3): what it makes is a machine that lies in the world.
-/
import Derived.Test.YthhahfggbjegmaaGreatQDevC
import Derived.Test.YthhahfggbjegmaaGreatQDevN
import Derived.Test.YthhahfggbjegmaaGreatQDevGg
import Derived.Test.YthhahfggbjegmaaGreatQDevS
import Derived.WalkSpells
import Derived.Test.YthhahfggbjegmaaGreatQTab
import Derived.Deep.AppendLies
namespace Go.Proofs.YthhahfggbjegmaaGreat
open Go.RowKit
set_option linter.unusedVariables false
set_option linter.unusedSimpArgs false
def setR (c : Nat → Int) (r : Nat) (v : Int) : Nat → Int := if r = 0 then c else updN c r v
def readM (s : MSt) (k : Nat) (n : Int) : Int :=
  if n = 1 then le1 (s.data k) else if n = 2 then le2 (s.data k) (s.data (k + 1)) else le4 (s.data k) (s.data (k + 1)) (s.data (k + 2)) (s.data (k + 3))
def inputM (L : Lay) (s : MSt) : Int := if s.c 34 < (L.ins.length : Int) then L.ins.getD (s.c 34).toNat 0 else 0
def loadM (L : Lay) (s : MSt) (op at' : Int) : Option Int :=
  if op = 13 ∧ at' = 536870924 then some (inputM L s)
  else if placeF L.dn at' (sizeF op) = true then some (loadF op (readM s (at' - 268435456).toNat (sizeF op))) else none
def putM (data : Nat → Int) (k : Nat) (n v : Int) : Nat → Int :=
  if n = 1 then updN data k (v % 256)
  else if n = 2 then updN (updN data k (v % 256)) (k + 1) (v / 256 % 256)
  else updN (updN (updN (updN data k (v % 256)) (k + 1) (v / 256 % 256)) (k + 2) (v / 65536 % 256)) (k + 3) (v / 16777216)
def storeM (L : Lay) (s : MSt) (op at' v : Int) : Option MSt :=
  if op = 18 ∧ at' = 536870912 then some { s with c := updN s.c 33 v }
  else if op = 18 ∧ at' = 536870916 then some { s with log := s.log ++ [(s.c 33, v)] }
  else if op = 18 ∧ at' = 536870920 then some { s with c := updN s.c 34 v }
  else if op = 18 ∧ at' = 536870928 then some { s with c := updN (updN s.c 40 1) 41 v }
  else if placeF L.dn at' (sizeF op) = true then some { s with data := putM s.data (at' - 268435456).toNat (sizeF op) v } else none
def wr (n : Int) : Int := n % 4294967296
def exec5 (L : Lay) (op : Int) (rd r1 r2 : Nat) (imm : Int) (s : MSt) : Option MSt :=
  if op = 0 then none
  else if op = 1 then some { s with c := updN (setR s.c rd (imm % 4294967296)) 32 ((s.c 32 + 4) % 4294967296) }
  else if op = 2 then some { s with c := updN (setR s.c rd ((s.c 32 + imm) % 4294967296)) 32 ((s.c 32 + 4) % 4294967296) }
  else if op = 3 then some { s with c := updN (setR s.c rd ((s.c 32 + 4) % 4294967296)) 32 ((s.c 32 + imm) % 4294967296) }
  else if op = 4 then some { s with c := updN (setR s.c rd ((s.c 32 + 4) % 4294967296)) 32 ((s.c r1 + imm) % 4294967296 - (s.c r1 + imm) % 4294967296 % 2) }
  else if op ≤ 10 then some { s with c := updN s.c 32 (if holdsF op (s.c r1) (s.c r2) = true then (s.c 32 + imm) % 4294967296 else (s.c 32 + 4) % 4294967296) }
  else if op ≤ 15 then (loadM L s op ((s.c r1 + imm) % 4294967296)).map fun v => { s with c := updN (setR s.c rd v) 32 ((s.c 32 + 4) % 4294967296) }
  else if op ≤ 18 then (storeM L s op ((s.c r1 + imm) % 4294967296) (s.c r2)).map fun t => { t with c := updN t.c 32 ((s.c 32 + 4) % 4294967296) }
  else some { s with c := updN (setR s.c rd (compF op (s.c r1) (s.c r2) (imm % 4294967296))) 32 ((s.c 32 + 4) % 4294967296) }
def execM (L : Lay) (i : List Int) (s : MSt) : Option MSt := exec5 L (i.getD 0 0) (i.getD 1 0).toNat (i.getD 2 0).toNat (i.getD 3 0).toNat (i.getD 4 0) s
def fetchM (L : Lay) (s : MSt) : List Int := if s.c 32 % 4 = 0 ∧ s.c 32 / 4 < (L.code.length : Int) then L.code.getD (s.c 32 / 4).toNat [] else [0, 0, 0, 0, 0]
def advM (L : Lay) (s : MSt) : MSt :=
  match execM L (fetchM L s) s with
  | some t => { t with c := updN t.c 39 (t.c 39 + 1) }
  | none => { s with c := updN s.c 40 2 }
def failM (s : MSt) : MSt := { s with c := fun o => if o < 35 then 0 else s.c o }
def skipM (st : Int) (l : List Int) : List Int := l.dropWhile fun x => decide (x < st)
def runM (L : Lay) (n : Int) : Nat → List Int → MSt → MSt
  | 0, _, s => s
  | f + 1, l, s =>
    if s.c 40 = 0 ∧ s.c 39 < n then
      match skipM (s.c 39) l with
      | [] => runM L n f [] (advM L s)
      | x :: t => if x = s.c 39 then runM L n f t (advM L (failM s)) else runM L n f (x :: t) (advM L s)
    else s
/-- What a call leaves that turned a machine into s. -/
def Okay (base : Nat) (L : Lay) (lv : Value) (w w' : World) (s : MSt) : Prop :=
  ∃ lv', At base w' L lv' s ∧ Wf base L lv' ∧ Fr (Foot L lv) w w' ∧ (∀ g, lv'.ownBlock = some g → lv.ownBlock = some g ∨ w.heap.size ≤ g)
theorem Okay.quiet {base : Nat} {L : Lay} {lv : Value} {w w' : World} {s : MSt} (h : At base w L lv s) (hw : Wf base L lv) (hf : Fr (fun _ => False) w w') : Okay base L lv w w' s :=
  ⟨lv, h.grown0 hf, hw, hf.mono (fun _ _ f => f.elim), fun g hg => .inl hg⟩
theorem Okay.trans {base : Nat} {L : Lay} {lv : Value} {w w1 w2 : World} {s t : MSt} (h : Okay base L lv w w1 s) (k : ∀ lv1, At base w1 L lv1 s → Wf base L lv1 → Okay base L lv1 w1 w2 t) : Okay base L lv w w2 t := by
  obtain ⟨l1, a1, f1, r1, g1⟩ := h
  obtain ⟨l2, a2, f2, r2, g2⟩ := k l1 a1 f1
  refine ⟨l2, a2, f2, r1.trans' r2 ?_, fun g hg => ?_⟩
  · rintro j hj (e | e | e)
    · exact .inl e
    · exact .inr (.inl e)
    · rcases g1 j e with h | h
      · exact .inr (.inr h)
      · omega
  · rcases g2 g hg with h | h
    · exact g1 g h
    · have := r1.size
      exact .inr (by omega)
/-- The world that is behind a quiet piece. -/
theorem Okay.before {base : Nat} {L : Lay} {lv : Value} {w w1 w2 : World} {s : MSt} (hf : Fr (fun _ => False) w w1) (k : Okay base L lv w1 w2 s) : Okay base L lv w w2 s := by
  obtain ⟨l2, a2, f2, r2, g2⟩ := k
  refine ⟨l2, a2, f2, (hf.mono (fun _ _ f => f.elim)).trans r2, fun g hg => ?_⟩
  rcases g2 g hg with h | h
  · exact .inl h
  · have := hf.size
    exact .inr (by omega)
theorem Okay.setNum {base : Nat} {L : Lay} {lv : Value} {w : World} {s : MSt} (h : At base w L lv s) (hw : Wf base L lv) (o : Nat) (ho : isNum o) (v : Int) (v0 : 0 ≤ v) (v1 : kindAt o = .u32 → v ≤ 4294967295) :
    Okay base L lv w (w.setCell ⟨L.b, o, none⟩ (.int (kindAt o) v)) { s with c := updN s.c o v } :=
  ⟨lv, h.setNum hw o ho v v0 v1, hw, Fr.setCell _ _ _ (.inl rfl), fun g hg => .inl hg⟩
theorem Okay.setByte {base : Nat} {L : Lay} {lv : Value} {w : World} {s : MSt} (h : At base w L lv s) (hw : Wf base L lv) (k : Nat) (hk : k < L.dn) (v : Int) (v0 : 0 ≤ v ∧ v ≤ 255) :
    Okay base L lv w (w.setCell ⟨L.db, L.dof + k, none⟩ (.int .u8 v)) { s with data := updN s.data k v } :=
  ⟨lv, h.setByte hw k hk v v0, hw, Fr.setCell _ _ _ (.inr (.inl rfl)), fun g hg => .inl hg⟩
theorem Okay.drewN {base : Nat} {L : Lay} {lv : Value} {w w' : World} {s : MSt} (h : Okay base L lv w w' s) (n : Nat) : Okay base L lv w (w'.drewN n) s :=
  h.trans fun lv1 a f => Okay.quiet a f ((Fr.refl _ _).drewN n)
/-- May a machine have so many words and bytes? -/
def mayB (n m : Int) : Bool := if n < 1 then false else if 32768 < n then false else if m < 4 then false else if 65536 < m then false else m % 4 == 0
set_option maxRecDepth 100000 in
set_option maxHeartbeats 2000000 in
theorem dv20_no (a0 : Option Addr) (n c0 : Nat) (a1 : Option Addr) (m c1 : Nat) (v2 : Value) (hn : n ≤ 100000) (hm : m ≤ 100000) (h : mayB n m = false) (w : World) :
    Calls Tryz.prog 8 #[.slice a0 n c0, .slice a1 m c1, v2] w fun e w' => e = .returned (.tuple #[.pointer none, .int .i64 1]) ∧ w = w' := by
  unfold mayB at h
  by_cases h1 : (n : Int) < 1
  · clear h
    go_enter Tryz.func8, Tryz.ntmps8
    go_wp2
    go_ret2
    exact ⟨rfl, rfl⟩
  rw [if_neg h1] at h
  by_cases h2 : 32768 < (n : Int)
  · clear h
    go_enter Tryz.func8, Tryz.ntmps8
    go_wp2
    go_ret2
    exact ⟨rfl, rfl⟩
  rw [if_neg h2] at h
  by_cases h3 : (m : Int) < 4
  · clear h
    go_enter Tryz.func8, Tryz.ntmps8
    go_wp2
    go_ret2
    exact ⟨rfl, rfl⟩
  rw [if_neg h3] at h
  by_cases h4 : 65536 < (m : Int)
  · clear h
    go_enter Tryz.func8, Tryz.ntmps8
    go_wp2
    go_ret2
    exact ⟨rfl, rfl⟩
  rw [if_neg h4] at h
  go_enter Tryz.func8, Tryz.ntmps8
  go_wp2
  go_ret2
  exact ⟨rfl, rfl⟩
def InsOk (ins : List Int) (w : World) (iv : Value) (w' : World) : Prop :=
  (iv = .slice none 0 0 ∧ ins = [] ∧ w = w') ∨ (iv ≠ .slice none 0 0 ∧ w'.ownsRow w.heap.size 40 1 iv ins.length (ins.map (Value.int .u32)) ∧ w.grownBy w' none)
def DataOk (ds : List Int) (w : World) (dv : Value) (w' : World) : Prop :=
  dv ≠ .slice none 0 0 ∧ w'.ownsRow w.heap.size 5 1 dv ds.length (ds.map (Value.int .u8)) ∧ w.grownBy w' none
def machL (g n : Nat) (dv iv : Value) : List Value := List.replicate 35 (.int .u32 0) ++ [.slice (some ⟨g, 0, none⟩) n n, dv, iv, .slice none 0 0, .int .i64 0, .int .i64 0, .int .u32 0]
set_option maxRecDepth 100000 in
set_option maxHeartbeats 4000000 in
theorem dv20_yes (a0 : Option Addr) (ws : List Int) (c0 : Nat) (a1 : Option Addr) (m c1 : Nat) (v2 : Value) (w : World) (hn : ws.length ≤ 32768) (hn0 : 0 < ws.length) (hm : m ≤ 65536) (hm0 : 4 ≤ m) (hm4 : (m : Int) % 4 = 0) (Sd Si : World → Value → World → Prop)
    (H56 : Hid (Calls Tryz.prog 23 #[.slice a0 ws.length c0] w fun e w' => ∃ g, e = .returned (.slice (some ⟨g, 0, none⟩) ws.length ws.length) ∧ w.heap.size ≤ g ∧ g < w'.heap.size ∧ Fr (fun _ => False) w w' ∧ DecAt w' g ws.length ws))
    (H57 : Hid (∀ w1, Fr (fun _ => False) w w1 → Calls Tryz.prog 24 #[.slice a1 m c1] w1 fun e w' => ∃ da dl dc, e = .returned (.slice da dl dc) ∧ Sd w1 (.slice da dl dc) w'))
    (H58 : Hid (∀ w1 dv w2, Fr (fun _ => False) w w1 → Sd w1 dv w2 → Calls Tryz.prog 25 #[v2] w2 fun e w' => ∃ ia il ic, e = .returned (.slice ia il ic) ∧ Si w2 (.slice ia il ic) w')) :
    Calls Tryz.prog 8 #[.slice a0 ws.length c0, .slice a1 m c1, v2] w fun e w' => ∃ g dv iv w1 w2 w3, e = .returned (.tuple #[.pointer (some ⟨w3.heap.size, 0, none⟩), .int .i64 0]) ∧
      (w.heap.size ≤ g ∧ g < w1.heap.size ∧ Fr (fun _ => False) w w1 ∧ DecAt w1 g ws.length ws) ∧ Sd w1 dv w2 ∧ Si w2 iv w3 ∧ w' = w3.alloc (.cells (machL g ws.length dv iv).toArray 59) := by
  obtain ⟨n, hnn⟩ : ∃ n, ws.length = n := ⟨_, rfl⟩
  rw [hnn] at hn hn0 H56
  rw [hnn]
  clear hnn
  go_enter Tryz.func8, Tryz.ntmps8
  go_wp2_with (first
    | (go_at_call 23; (with_reducible refine H56.out.mono ?_); rintro e w1 ⟨g, rfl, h1⟩; have HQ1 := Lib.hid h1; clear h1)
    | (go_at_call 24; (with_reducible refine (H57.out _ HQ1.out.2.2.1).mono ?_); rintro e w2 ⟨da, dl, dc, rfl, h2⟩; have HQ2 := Lib.hid h2; clear h2)
    | (go_at_call 25; (with_reducible refine (H58.out _ _ _ HQ1.out.2.2.1 HQ2.out).mono ?_); rintro e w3 ⟨ia, il, ic, rfl, h3⟩; have HQ3 := Lib.hid h3; clear h3))
  go_ret2
  exact ⟨g, _, _, w1, w2, w3, rfl, HQ1.out, HQ2.out, HQ3.out, rfl⟩
theorem updN_same (f : Nat → Int) (k : Nat) (v : Int) : updN f k v k = v := by simp [updN]
theorem updN_other {f : Nat → Int} {k o : Nat} {v : Int} (h : o ≠ k) : updN f k v o = f o := by simp [updN, h]
theorem setR_other {c : Nat → Int} {r o : Nat} {v : Int} (h : o ≠ r) : setR c r v o = c o := by
  unfold setR; split
  · rfl
  · exact updN_other h
theorem storeM_steps {L : Lay} {s t : MSt} {op a v : Int} (h : storeM L s op a v = some t) : t.c 39 = s.c 39 := by
  unfold storeM at h
  (repeat' split at h) <;> simp only [Option.some.injEq, reduceCtorEq] at h <;> subst h <;> simp [updN]
theorem exec5_steps {L : Lay} {op imm : Int} {rd r1 r2 : Nat} {s t : MSt} (hr : rd < 32) (h : exec5 L op rd r1 r2 imm s = some t) : t.c 39 = s.c 39 := by
  have e1 : ∀ v, setR s.c rd v 39 = s.c 39 := fun v => setR_other (by omega)
  unfold exec5 at h
  split at h; · simp at h
  split at h; · simp only [Option.some.injEq] at h; subst h; simp [updN, e1]
  split at h; · simp only [Option.some.injEq] at h; subst h; simp [updN, e1]
  split at h; · simp only [Option.some.injEq] at h; subst h; simp [updN, e1]
  split at h; · simp only [Option.some.injEq] at h; subst h; simp [updN, e1]
  split at h; · simp only [Option.some.injEq] at h; subst h; simp [updN, e1]
  split at h
  · simp only [Option.map_eq_some_iff] at h
    obtain ⟨v, _, rfl⟩ := h
    simp [updN, e1]
  split at h
  · simp only [Option.map_eq_some_iff] at h
    obtain ⟨u, hu, rfl⟩ := h
    have := storeM_steps hu
    simp [updN, this]
  · simp only [Option.some.injEq] at h; subst h; simp [updN, e1]
theorem fetch_ok {L : Lay} (h : CodeOk L) (s : MSt) : (fetchM L s).length = 5 ∧ 0 ≤ (fetchM L s).getD 0 0 ∧ (fetchM L s).getD 0 0 ≤ 45 ∧ (0 ≤ (fetchM L s).getD 1 0 ∧ (fetchM L s).getD 1 0 < 32) ∧ (0 ≤ (fetchM L s).getD 2 0 ∧ (fetchM L s).getD 2 0 < 32) ∧ (0 ≤ (fetchM L s).getD 3 0 ∧ (fetchM L s).getD 3 0 < 32) := by
  unfold fetchM
  split
  · rename_i hc
    by_cases hn : (s.c 32 / 4).toNat < L.code.length
    · refine h.2 _ ?_
      rw [List.getD_eq_getElem?_getD, List.getElem?_eq_getElem hn]
      exact List.getElem_mem hn
    · have := h.1
      exfalso; omega
  · simp
theorem adv_steps {L : Lay} (h : CodeOk L) (s : MSt) : (advM L s).c 40 ≠ 0 ∨ (advM L s).c 39 = s.c 39 + 1 := by
  unfold advM
  split
  · rename_i t ht
    right
    have := exec5_steps (by have := (fetch_ok h s).2.2.2.1; omega) ht
    simp [updN, this]
  · left; simp [updN]
theorem runM_stop {L : Lay} {n : Int} {s : MSt} (f : Nat) (l : List Int) (h : ¬ (s.c 40 = 0 ∧ s.c 39 < n)) : runM L n f l s = s := by
  cases f with
  | zero => rfl
  | succ f => rw [runM, if_neg h]
def enough (n : Int) (f : Nat) (s : MSt) : Prop := s.c 40 = 0 → (n - s.c 39).toNat ≤ f
/-- One round. -/
def roundM (L : Lay) (l : List Int) (s : MSt) : List Int × MSt :=
  match skipM (s.c 39) l with
  | [] => ([], advM L s)
  | x :: t => if x = s.c 39 then (t, advM L (failM s)) else (x :: t, advM L s)
theorem runM_round {L : Lay} {n : Int} {f : Nat} {l : List Int} {s : MSt} (h : s.c 40 = 0 ∧ s.c 39 < n) : runM L n (f + 1) l s = runM L n f (roundM L l s).1 (roundM L l s).2 := by
  rw [runM, if_pos h]
  unfold roundM
  cases skipM (s.c 39) l with
  | nil => rfl
  | cons x t => by_cases hx : x = s.c 39 <;> simp [hx]
theorem fail_steps (s : MSt) : (failM s).c 39 = s.c 39 ∧ (failM s).c 40 = s.c 40 := by simp [failM]
theorem round_steps {L : Lay} (h : CodeOk L) (l : List Int) (s : MSt) : (roundM L l s).2.c 40 ≠ 0 ∨ (roundM L l s).2.c 39 = s.c 39 + 1 := by
  unfold roundM
  split
  · exact adv_steps h s
  · split
    · have := adv_steps h (failM s); rw [(fail_steps s).1] at this; exact this
    · exact adv_steps h s
theorem enough_round {L : Lay} (hc : CodeOk L) {n : Int} {f : Nat} {l : List Int} {s : MSt} (h : s.c 40 = 0 ∧ s.c 39 < n) (he : enough n (f + 1) s) : enough n f (roundM L l s).2 := by
  intro h0
  have h1 := he h.1
  rcases round_steps hc l s with h2 | h2
  · exact absurd h0 h2
  · rw [h2]; omega
theorem runM_fuel {L : Lay} (hc : CodeOk L) {n : Int} : ∀ (f g : Nat) (l : List Int) (s : MSt), enough n f s → enough n g s → runM L n f l s = runM L n g l s := by
  intro f
  induction f with
  | zero =>
    intro g l s hf hg
    have hn : ¬ (s.c 40 = 0 ∧ s.c 39 < n) := fun h => by have := hf h.1; omega
    rw [runM_stop _ _ hn, runM_stop _ _ hn]
  | succ f ih =>
    intro g l s hf hg
    by_cases h : s.c 40 = 0 ∧ s.c 39 < n
    · cases g with
      | zero => have := hg h.1; omega
      | succ g =>
        rw [runM_round h, runM_round h]
        exact ih g _ _ (enough_round hc h hf) (enough_round hc h hg)
    · rw [runM_stop _ _ h, runM_stop _ _ h]
theorem runM_congr {L : Lay} {n : Int} {f : Nat} {l l' : List Int} {s : MSt} (h : s.c 40 = 0 → skipM (s.c 39) l = skipM (s.c 39) l') : runM L n f l s = runM L n f l' s := by
  by_cases hr : s.c 40 = 0 ∧ s.c 39 < n
  · cases f with
    | zero => rfl
    | succ f =>
      rw [runM_round hr, runM_round hr]
      unfold roundM
      rw [h hr.1]
  · rw [runM_stop _ _ hr, runM_stop _ _ hr]
/-- Rising lists. -/
def Rising (l : List Int) : Prop := l.Pairwise (· < ·)
theorem skip_filter {l : List Int} (h : Rising l) (st : Int) : skipM st l = l.filter fun x => decide (st ≤ x) := by
  induction l with
  | nil => rfl
  | cons a t ih =>
    obtain ⟨h1, h2⟩ := List.pairwise_cons.1 h
    unfold skipM
    by_cases ha : a < st
    · rw [List.dropWhile_cons_of_pos (by simpa using ha), List.filter_cons_of_neg (by simpa using ha)]
      exact ih h2
    · rw [List.dropWhile_cons_of_neg (by simpa using ha), List.filter_cons_of_pos (by simpa using Int.not_lt.1 ha)]
      congr 1
      symm
      rw [List.filter_eq_self]
      intro x hx
      have := h1 x hx
      simp; omega
theorem skip_more {l : List Int} (h : Rising l) {st st' : Int} (hs : st ≤ st') : skipM st' (skipM st l) = skipM st' l := by
  rw [skip_filter h, skip_filter (h.filter _), skip_filter h, List.filter_filter]
  congr 1
  funext x
  by_cases h1 : st' ≤ x
  · have : st ≤ x := by omega
    simp [h1, this]
  · simp [h1]
theorem round_skip {L : Lay} {l l0 : List Int} {s : MSt} (h0 : Rising l0) (hl : skipM (s.c 39) l = skipM (s.c 39) l0) :
    skipM (s.c 39 + 1) (roundM L l s).1 = skipM (s.c 39 + 1) l0 := by
  have hm := skip_more h0 (show s.c 39 ≤ s.c 39 + 1 by omega)
  rw [← hl] at hm
  rw [← hm]
  unfold roundM
  split
  · rename_i e; rw [e]
  · rename_i x t e
    rw [e]
    split
    · rename_i hx
      show _ = List.dropWhile _ _
      rw [List.dropWhile_cons_of_pos (by simp; omega)]
      rfl
    · rfl
theorem runM_parts {L : Lay} (hc : CodeOk L) {l0 : List Int} (h0 : Rising l0) {k n : Int} (hkn : k ≤ n) : ∀ (f F F' : Nat) (l : List Int) (s : MSt), enough k f s → enough n F s →
    (s.c 40 = 0 → skipM (s.c 39) l = skipM (s.c 39) l0) → enough n F' (runM L k f l s) →
    runM L n F l s = runM L n F' (l0.filter fun x => decide ((runM L k f l s).c 39 ≤ x)) (runM L k f l s) := by
  intro f
  induction f with
  | zero =>
    intro F F' l s hk hF hl hF'
    have e : runM L k 0 l s = s := rfl
    rw [e] at hF' ⊢
    rw [runM_fuel hc F F' l s hF hF']
    refine runM_congr fun h => ?_
    rw [hl h, ← skip_filter h0, skip_more h0 (Int.le_refl _)]
  | succ f ih =>
    intro F F' l s hk hF hl hF'
    by_cases h : s.c 40 = 0 ∧ s.c 39 < k
    · have hn : s.c 40 = 0 ∧ s.c 39 < n := ⟨h.1, by omega⟩
      cases F with
      | zero => have := hF h.1; omega
      | succ F =>
        rw [runM_round h] at hF' ⊢
        rw [runM_round hn]
        refine ih F F' _ _ (enough_round hc h hk) (enough_round hc hn hF) (fun hz => ?_) hF'
        rcases round_steps hc l s with h2 | h2
        · exact absurd hz h2
        · rw [h2]
          exact round_skip h0 (hl h.1)
    · have e : runM L k (f + 1) l s = s := runM_stop _ _ h
      rw [e] at hF' ⊢
      rw [runM_fuel hc F F' l s hF hF']
      refine runM_congr fun h => ?_
      rw [hl h, ← skip_filter h0, skip_more h0 (Int.le_refl _)]
/-- A run to n steps. -/
def runE (L : Lay) (n : Int) (l : List Int) (s : MSt) : MSt := runM L n (n - s.c 39).toNat l s
theorem enough_E (n : Int) (s : MSt) : enough n (n - s.c 39).toNat s := fun _ => Nat.le_refl _
theorem runE_stop {L : Lay} {n : Int} {l : List Int} {s : MSt} (h : ¬ (s.c 40 = 0 ∧ s.c 39 < n)) : runE L n l s = s := runM_stop _ _ h
theorem runE_round {L : Lay} (hc : CodeOk L) {n : Int} {l : List Int} {s : MSt} (h : s.c 40 = 0 ∧ s.c 39 < n) : runE L n l s = runE L n (roundM L l s).1 (roundM L l s).2 := by
  have e := runM_fuel hc (n - s.c 39).toNat ((n - s.c 39).toNat + 1) l s (enough_E n s) (fun _ => by omega)
  unfold runE
  rw [e, runM_round h]
  exact runM_fuel hc _ _ _ _ (enough_round hc h (fun _ => by omega)) (enough_E _ _)
theorem runE_parts {L : Lay} (hc : CodeOk L) {l : List Int} (hl : Rising l) {k n : Int} (hkn : k ≤ n) (s : MSt) :
    runE L n l s = runE L n (l.filter fun x => decide ((runE L k l s).c 39 ≤ x)) (runE L k l s) :=
  runM_parts hc hl hkn _ _ _ l s (enough_E _ _) (enough_E _ _) (fun _ => rfl) (enough_E _ _)
/-- A slice of words or of bytes that can be read. -/
def ListAt (k : IntKind) (w : World) (v : Value) (l : List Int) : Prop :=
  (v = .slice none 0 0 ∧ l = []) ∨ ∃ ad c, v = .slice (some ad) l.length c ∧ ∀ i, i < l.length → ad.spot = none ∧ w.cell? ⟨ad.block, ad.off + i, none⟩ = some (.int k (l.getD i 0))
theorem ListAt.kept {k : IntKind} {w w' : World} {v : Value} {l : List Int} (h : ListAt k w v l) (hf : Fr (fun _ => False) w w') : ListAt k w' v l := by
  rcases h with h | ⟨ad, c, e, h⟩
  · exact .inl h
  · exact .inr ⟨ad, c, e, fun i hi => ⟨(h i hi).1, hf.cell (h i hi).2 id⟩⟩
theorem list_news {k : IntKind} {w : World} {ad : Addr} {l : List Int} (h : ∀ i, i < l.length → ad.spot = none ∧ w.cell? ⟨ad.block, ad.off + i, none⟩ = some (.int k (l.getD i 0))) :
    ∀ j u, (l.map (Value.int k))[j]? = some u → w.cell? (ad.add j) = some u := by
  intro j u hu
  have hj : j < l.length := by
    have := (List.getElem?_eq_some_iff.1 hu).1
    simpa using this
  obtain ⟨h1, h2⟩ := h j hj
  obtain ⟨b, o, sp⟩ := ad
  simp only at h1 h2
  subst h1
  have hadd : (⟨b, o, none⟩ : Addr).add j = ⟨b, o + j, none⟩ := by unfold Addr.add; split <;> simp_all
  rw [hadd, h2, ← hu]
  simp [hj, List.getD_eq_getElem?_getD]
theorem ones {k : IntKind} {l : List Int} : ∀ u ∈ l.map (Value.int k), u.oneCell' = true := by
  intro u hu
  obtain ⟨x, _, rfl⟩ := List.mem_map.1 hu
  rfl
theorem own_form {w : World} {base e size n : Nat} {v : Value} {xs : List Value} (h : w.ownsRow base e size v n xs) (hv : v ≠ .slice none 0 0) : ∃ g c, v = .slice (some ⟨g, 0, none⟩) n c ∧ base ≤ g ∧ g < w.heap.size := by
  rcases h.2 with ⟨e1, _⟩ | ⟨g, cap, cur, hv', hb, hg, _⟩
  · exact absurd e1 hv
  · exact ⟨g, cap, hv', hb, (Array.getElem?_eq_some_iff.1 hg).1⟩
def initM (ds : List Int) : MSt := { c := fun _ => 0, data := fun k => ds.getD k 0, log := [] }
theorem machL_num (g n : Nat) (dv iv : Value) {o : Nat} (ho : isNum o) : (machL g n dv iv).toArray[o]? = some (.int (kindAt o) 0) := by
  unfold isNum at ho
  unfold machL
  rw [List.getElem?_toArray]
  by_cases h : o < 35
  · rw [List.getElem?_append_left (by simpa using h), List.getElem?_replicate, if_pos h]
    have : kindAt o = .u32 := by unfold kindAt; rw [if_neg (by omega), if_neg (by omega)]
    rw [this]
  · have : o = 39 ∨ o = 40 ∨ o = 41 := by omega
    rcases this with rfl | rfl | rfl <;> rfl
theorem new_done {w w1 w2 w3 : World} {ws ds ins : List Int} {g : Nat} {dv iv : Value} (hb : mayB ws.length ds.length = true) (wb : ∀ k, k < ws.length → 0 ≤ ws.getD k 0) (db : ∀ k, k < ds.length → 0 ≤ ds.getD k 0 ∧ ds.getD k 0 ≤ 255)
    (ib : ∀ k, k < ins.length → 0 ≤ ins.getD k 0 ∧ ins.getD k 0 ≤ 4294967295) (il : ins.length ≤ 100000)
    (h1 : w.heap.size ≤ g ∧ g < w1.heap.size ∧ Fr (fun _ => False) w w1 ∧ DecAt w1 g ws.length ws) (h2 : DataOk ds w1 dv w2) (h3 : InsOk ins w2 iv w3) :
    ∃ L, L.b = w3.heap.size ∧ L.code = ws.map decM ∧ L.dn = ds.length ∧ L.ins = ins ∧ At w.heap.size (w3.alloc (.cells (machL g ws.length dv iv).toArray 59)) L (.slice none 0 0) (initM ds) ∧ Wf w.heap.size L (.slice none 0 0) ∧
      Fr (fun _ => False) w (w3.alloc (.cells (machL g ws.length dv iv).toArray 59)) ∧ w.heap.size ≤ L.b ∧ w.heap.size ≤ L.db ∧ w.heap.size ≤ L.cb ∧ (∀ a, L.ia = some a → w.heap.size ≤ a.block) := by
  have hmay : 1 ≤ (ws.length : Int) ∧ (ws.length : Int) ≤ 32768 ∧ 4 ≤ (ds.length : Int) ∧ (ds.length : Int) ≤ 65536 ∧ (ds.length : Int) % 4 = 0 := by
    unfold mayB at hb
    split at hb; · cases hb
    split at hb; · cases hb
    split at hb; · cases hb
    split at hb; · cases hb
    have := beq_iff_eq.1 hb
    omega
  obtain ⟨m1, m2, m3, m4, m5⟩ := hmay
  obtain ⟨g1, g2, f1, hd⟩ := h1
  obtain ⟨dne, down, df⟩ := h2
  obtain ⟨gd, cd, rfl, gd1, gd2⟩ := own_form down dne
  have fd : Fr (fun _ => False) w1 w2 := Fr.of_by0 df
  have fi : Fr (fun _ => False) w2 w3 := by
    rcases h3 with ⟨_, _, rfl⟩ | ⟨_, _, hg⟩
    · exact Fr.refl _ _
    · exact Fr.of_by0 hg
  have fa : Fr (fun _ => False) w3 (w3.alloc (.cells (machL g ws.length (.slice (some ⟨gd, 0, none⟩) ds.length cd) iv).toArray 59)) := Fr.of_by0 (World.grownBy_alloc _ _ _)
  have hia : ∃ ia ic, iv = .slice ia ins.length ic ∧ (∀ a, ia = some a → w2.heap.size ≤ a.block ∧ a.block < w3.heap.size) ∧ ∀ k, k < ins.length → ∃ b o, ia = some ⟨b, o, none⟩ ∧ w3.cell? ⟨b, o + k, none⟩ = some (.int .u32 (ins.getD k 0)) := by
    rcases h3 with ⟨rfl, rfl, rfl⟩ | ⟨ine, iown, _⟩
    · exact ⟨none, 0, rfl, (fun a e => by cases e), (fun k hk => absurd hk (by simp))⟩
    · obtain ⟨gi, ci, rfl, q1, q2⟩ := own_form iown ine
      refine ⟨some ⟨gi, 0, none⟩, ci, rfl, (fun a e => by cases e; exact ⟨q1, q2⟩), fun k hk => ⟨gi, 0, rfl, ?_⟩⟩
      have := iown.cellAt k (by omega)
      rw [Nat.zero_add, this]
      simp [hk, List.getD_eq_getElem?_getD]
  obtain ⟨ia, ic, rfl, hib, hic⟩ := hia
  have s1 := fd.size
  have s2 := fi.size
  have fAll := (f1.trans fd).trans (fi.trans fa)
  have hrow : ∀ o v, (machL g ws.length (.slice (some ⟨gd, 0, none⟩) ds.length cd) (.slice ia ins.length ic)).toArray[o]? = some v → (w3.alloc (.cells (machL g ws.length (.slice (some ⟨gd, 0, none⟩) ds.length cd) (.slice ia ins.length ic)).toArray 59)).cell? ⟨w3.heap.size, o, none⟩ = some v := fun o v h => row_cell _ _ _ o v h
  have hcl : (ws.map decM).length = ws.length := by simp
  have hbyte : ∀ k, k < ds.length → (w3.alloc (.cells (machL g ws.length (.slice (some ⟨gd, 0, none⟩) ds.length cd) (.slice ia ins.length ic)).toArray 59)).cell? ⟨gd, 0 + k, none⟩ = some (.int .u8 (ds.getD k 0)) := fun k hk => by
    have := down.cellAt k (by omega)
    refine (fi.trans fa).cell ?_ id
    rw [Nat.zero_add, this]
    simp [hk, List.getD_eq_getElem?_getD]
  refine ⟨{ b := w3.heap.size, cb := g, co := 0, cc := ws.length, db := gd, dof := 0, dn := ds.length, dc := cd, ia := ia, ic := ic, code := ws.map decM, ins := ins }, rfl, rfl, rfl, rfl, ?_, ?_, fAll, by show w.heap.size ≤ w3.heap.size; have := f1.size; omega, by show w.heap.size ≤ gd; have := f1.size; omega, g1, fun a e => by have := (hib a e).1; have := f1.size; omega⟩
  · refine ⟨fun o ho => hrow o _ (machL_num _ _ _ _ ho), hrow 35 _ ?_, hrow 36 _ rfl, hrow 37 _ rfl, hrow 38 _ rfl, World.ownsRow_nil _ _ _ _, fun o ho => World.frozen?_alloc_at _ _ _ _ rfl, hbyte, fun k hk => ?_, fun k hk j hj => ?_, fun k hk => ?_, fun o _ => Int.le_refl _, fun o _ _ => by show (0 : Int) ≤ 4294967295; decide, fun k hk => db k hk, fAll.size, fun a e => Nat.lt_of_lt_of_le (hib a e).2 fa.size⟩
    · show _ = some (Value.slice (some ⟨g, 0, none⟩) (ws.map decM).length ws.length)
      rw [hcl]; rfl
    · have hk : k < ds.length := hk
      have h0 := down.frozenAt k
      have hc := down.cellAt k (by omega)
      have hx : ∃ x, w2.cell? ⟨gd, k, none⟩ = some x := by
        rw [hc]
        exact ⟨_, List.getElem?_eq_getElem (by simpa using hk)⟩
      obtain ⟨x, hx⟩ := hx
      show World.frozen? _ ⟨gd, 0 + k, none⟩ = false
      rw [Nat.zero_add, (fi.trans fa).frozen hx id]
      exact h0
    · have hk' : k < ws.length := by simpa using hk
      have := hd k hk' j hj
      show World.cell? _ ⟨g, 0 + k * 5 + j, none⟩ = _
      rw [Nat.zero_add]
      rw [((fd.trans (fi.trans fa)).cell this id)]
      simp [hk', List.getD_eq_getElem?_getD]
    · obtain ⟨b, o, e, hc⟩ := hic k hk
      exact ⟨b, o, e, fa.cell hc id⟩
  · refine ⟨by show gd ≠ w3.heap.size; omega, by show g ≠ w3.heap.size; omega, by show g ≠ gd; omega, fun a e => ⟨?_, ?_⟩, ⟨by show 4 ≤ ds.length; omega, by show ds.length ≤ 65536; omega, by show ds.length % 4 = 0; omega⟩, ⟨by show 1 ≤ (ws.map decM).length; omega, by show (ws.map decM).length ≤ 32768; omega⟩, il, (fun q e => by cases e), ib, ⟨by show 0 < (ws.map decM).length; omega, fun i hi => ?_⟩⟩
    · have := (hib a e).2
      show a.block ≠ w3.heap.size
      omega
    · have := (hib a e).1
      show a.block ≠ gd
      omega
    · obtain ⟨u, hu, rfl⟩ := List.mem_map.1 hi
      obtain ⟨k, hk, rfl⟩ := List.mem_iff_getElem.1 hu
      have := wb k hk
      rw [List.getD_eq_getElem?_getD, List.getElem?_eq_getElem hk] at this
      exact decM_ok this
end Go.Proofs.YthhahfggbjegmaaGreat
