/-
  A walk over a region that draws its order, over a frame of which some slots are known.
-/
import Derived.Test.YthdkmjbeemfbbaaQWk
import Derived.OrdersHeld
namespace Go.Proofs.Ythdkmjbeemfbbaa
open Go.RowKit
set_option linter.unusedVariables false
set_option linter.unusedSimpArgs false
def WH (P : Program) (ops : Array Oper) (S : World → Prop) (N : Nat) (Q : Exit → Act → World → Prop) (fuel : Nat) (listed : Array Bool) (s : List (Nat × Value)) (w : World) : Prop := ∀ a, Kn N s a → wpAnyH P .any ops Q S fuel listed a w
section
variable {P : Program} {ops : Array Oper} {S : World → Prop} {N : Nat} {Q : Exit → Act → World → Prop} {s : List (Nat × Value)} {l : List Oper} {o o' : Oper} {d i i' fuel : Nat} {listed : Array Bool} {w : World} {y : Code} {id : Nat}
theorem TW.sregH (S : World → Prop) (hm : P.follows .mixedOrders = true) (h : WH P l.toArray S N (Exit.then (y.wp P Q) Q) l.toArray.size (Array.replicate l.toArray.size false) s w.drew) : TW P N Q s (.seq (.region id l.toArray true) y) w := TW.seq fun a k => wp_region_held hm (h a k)
theorem TW.regH (S : World → Prop) (hm : P.follows .mixedOrders = true) (h : WH P l.toArray S N Q l.toArray.size (Array.replicate l.toArray.size false) s w.drew) : TW P N Q s (.region id l.toArray true) w := fun a k => wp_region_held hm (h a k)
theorem WH.take {v : Value} (i : Nat) (hi : ops[i]? = some o) (hsel : Region.noSelect ops = true) (hf : Region.free .any ops listed i = true) (hr : (Region.ready .any ops listed).contains i = true) (hQ : ∀ c a (d : Nat) v w, Q (.panic c) (a.put (some d) v) w → Q (.panic c) a w) (hd : o.dst = some d) (hN : Nat.blt d N = true) (hg : gd ops s o = some true) (hS : S w)
    (hy : ∀ a, Kn N s a → ∀ w, S w → (execOp a.eval o).run P w = .ok (.value v) w) (h : WH P ops S N Q fuel (listed.setIfInBounds i true) ((d, v) :: s) w) : WH P ops S N Q (fuel + 1) listed s w := fun a k =>
  wpAnyH_take hi hsel hf hr (fun c a2 w h => hQ c a2 d _ w (by rw [hd] at h; exact h)) (.inl ⟨gd_wanted k hg, hy a k⟩) hS (by rw [hd]; exact h _ (k.put hN _))
abbrev Go1 (P : Program) (ops : Array Oper) (S : World → Prop) (Q : Exit → Act → World → Prop) (fuel : Nat) (listed : Array Bool) : Exit → Act → World → Prop := Exit.then (fun a' w' => S w' ∧ wpAnyH P .any ops Q S fuel listed a' w') Q
theorem wpOp_of_list {K : Act → World → Prop} {a : Act} (hi : ops[i]? = some o) (h : wpList P ops (Exit.then K Q) [o] a w) : wpOp P ops Q i K a w := by
  unfold wpOp
  rw [hi]
  exact h
theorem WH.one (i : Nat) (hr : Region.ready .any ops listed = [i]) (hi : ops[i]? = some o) (h : WL P ops N (Go1 P ops S Q fuel (listed.setIfInBounds i true)) s [o] w) : WH P ops S N Q (fuel + 1) listed s w := fun a k =>
  wpAnyH_all hr (by simp) (fun j hj => by
    have : j = i := by simpa using hj
    subst this
    exact wpOp_of_list hi (h a k))
theorem WH.two (i i' : Nat) (hr : Region.ready .any ops listed = [i, i']) (hi : ops[i]? = some o) (hi' : ops[i']? = some o') (h : WL P ops N (Go1 P ops S Q fuel (listed.setIfInBounds i true)) s [o] w) (h' : WL P ops N (Go1 P ops S Q fuel (listed.setIfInBounds i' true)) s [o'] w) : WH P ops S N Q (fuel + 1) listed s w := fun a k =>
  wpAnyH_all hr (by simp) (fun j hj => by
    have : j = i ∨ j = i' := by simpa using hj
    rcases this with e | e
    · subst e; exact wpOp_of_list hi (h a k)
    · subst e; exact wpOp_of_list hi' (h' a k))
theorem WL.fin (hS : S w) (h : WH P ops S N Q fuel listed s w) : WL P ops N (Go1 P ops S Q fuel listed) s [] w := fun a k => wpList_nil ⟨hS, h a k⟩
theorem WH.done (hr : Region.ready .any ops listed = []) (h : TW P N Q s y w) : WH P ops S N (Exit.then (y.wp P Q) Q) fuel listed s w := fun a k => wpAnyH_done hr (h a k) _
theorem WH.end (hr : Region.ready .any ops listed = []) (h : Xw .normal N Q s w) : WH P ops S N Q fuel listed s w := fun a k => wpAnyH_done hr (h a k) _
theorem RH.move {x : Operand} {v : Value} (hop : o.op = .move x) (hv : ev s x = some v) : ∀ a, Kn N s a → ∀ w, S w → (execOp a.eval o).run P w = .ok (.value v) w := fun a k w _ => by
  unfold execOp
  rw [hop]
  have := k.eval hv
  generalize a.eval = e at *
  simp [go_sem, this]
theorem RH.assign {x : Operand} {v : Value} (hop : o.op = .assign x) (hv : ev s x = some v) : ∀ a, Kn N s a → ∀ w, S w → (execOp a.eval o).run P w = .ok (.value v) w := fun a k w _ => by
  unfold execOp
  rw [hop]
  have := k.eval hv
  generalize a.eval = e at *
  simp [go_sem, this]
theorem RH.field {t : TypeId} {x : Operand} {j : Nat} {u v : Value} (hop : o.op = .fieldAddr t x j) (hu : ev s x = some u) (hr : ∀ w, (Instr.fieldAt t u j).run P w = .ok v w) : ∀ a, Kn N s a → ∀ w, S w → (execOp a.eval o).run P w = .ok (.value v) w := fun a k w _ => by
  unfold execOp
  rw [hop]
  simp only [k.eval hu, Sem.run_bind, hr, Result.andThen_ok, Sem.run_pure]
theorem RH.load {t : TypeId} {x : Operand} {u v : Value} (hop : o.op = .load t x) (hu : ev s x = some u) (hr : ∀ w, S w → (Instr.loadAt t u).run P w = .ok v w) : ∀ a, Kn N s a → ∀ w, S w → (execOp a.eval o).run P w = .ok (.value v) w := fun a k w hw => by
  unfold execOp
  rw [hop]
  simp only [k.eval hu, Sem.run_bind, hr w hw, Result.andThen_ok, Sem.run_pure]
theorem RH.index {t : TypeId} {x y : Operand} {u i v : Value} (hop : o.op = .indexAddr t x y) (hu : ev s x = some u) (hi : ev s y = some i) (hr : ∀ w, (Instr.indexAt t u i).run P w = .ok v w) : ∀ a, Kn N s a → ∀ w, S w → (execOp a.eval o).run P w = .ok (.value v) w := fun a k w _ => by
  unfold execOp
  rw [hop]
  simp only [k.eval hu, k.eval hi, Sem.run_bind, hr, Result.andThen_ok, Sem.run_pure]
theorem RH.extract {x : Operand} {j : Nat} {vs : Array Value} {v : Value} (hop : o.op = .extract x j) (hu : ev s x = some (.tuple vs)) (hv : vs[j]? = some v) : ∀ a, Kn N s a → ∀ w, S w → (execOp a.eval o).run P w = .ok (.value v) w := fun a k w _ => by
  have h1 := k.eval hu
  unfold execOp
  rw [hop]
  generalize a.eval = e at *
  simp [go_sem, h1, hv]
end
end Go.Proofs.Ythdkmjbeemfbbaa
