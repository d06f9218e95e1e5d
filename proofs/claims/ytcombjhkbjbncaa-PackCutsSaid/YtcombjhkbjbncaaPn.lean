/-
  Panics over a frame of which some slots are known: a text's own, and calls that may panic.
-/
import Derived.Test.YtcombjhkbjbncaaDf
namespace Go.Proofs.Ytcombjhkbjbncaa
open Go.RowKit
set_option linter.unusedVariables false
set_option linter.unusedSimpArgs false
section
variable {P : Program} {ops : Array Oper} {N : Nat} {Q : Exit → Act → World → Prop} {s : List (Nat × Value)} {l : List Oper} {o : Oper} {d : Nat} {w : World}
theorem O.panic {x : Operand} {t : TypeId} {v : Value} (hop : o.op = .panic x) (hd : o.dst = none) (hg : gd ops s o = some true) (hu : ev s x = some (.iface t v)) (h : ∀ a, Kn N s a → Q (.panic [{ v := .iface t v, recovered := false }]) a w) : WL P ops N Q s (o :: l) w := fun a k => by
  have hv := k.eval hu
  unfold wpList
  rw [gd_wanted k hg, if_pos rfl]
  refine .inl ?_
  unfold Oper.wp
  have he : (execOp a.eval o).run P w = .halt (.panic (.iface t v)) w := by
    unfold execOp
    rw [hop]
    generalize a.eval = e at *
    simp [go_sem, hv]
    rfl
  rw [he]
  exact h a k
theorem WL.callP {f : Nat} {xs ts : Array _} {vs : Array Value} {R : Ending → World → Prop} (hop : o.op = .call ⟨.value (.func f), xs, ts⟩) (hd : o.dst = some d) (hN : Nat.blt d N = true) (hg : gd ops s o = some true) (hu : xs.toList.map (ev s) = vs.toList.map some) (hc : ∀ w, (callFunc f vs).run P w = .ok (.enter f vs) w) (hr : Calls P f vs w R) (h : ∀ e w', R e w' → (∃ v, e = .returned v ∧ WL P ops N Q ((d, v) :: s) l w') ∨ ∃ c, e = .panicked c ∧ ∀ a, Kn N s a → Q (.panic c) a w') : WL P ops N Q s (o :: l) w := fun a k => by
  have hm := evs k hu
  have hf : a.eval (.func f) = .func (.func f) #[] #[] := rfl
  unfold wpList
  rw [gd_wanted k hg, if_pos rfl]
  refine .inl ?_
  unfold Oper.wp
  have he : (execOp a.eval o).run P w = .ok (.enter f vs) w := by
    unfold execOp
    rw [hop]
    generalize a.eval = e at *
    simp [go_sem, hm, hf, hc]
  rw [he]
  unfold Oper.upon
  refine hr.mono fun e w' q => ?_
  rcases h e w' q with ⟨v, rfl, hv⟩ | ⟨c, rfl, hv⟩
  · rw [hd]
    exact hv _ (k.put hN _)
  · exact hv a k
theorem O.callnP {f : Nat} {xs ts : Array _} {vs : Array Value} {R : Ending → World → Prop} (hop : o.op = .call ⟨.value (.func f), xs, ts⟩) (hd : o.dst = none) (hg : gd ops s o = some true) (hu : xs.toList.map (ev s) = vs.toList.map some) (hc : ∀ w, (callFunc f vs).run P w = .ok (.enter f vs) w) (hr : Calls P f vs w R) (h : ∀ e w', R e w' → (∃ v, e = .returned v ∧ WL P ops N Q s l w') ∨ ∃ c, e = .panicked c ∧ ∀ a, Kn N s a → Q (.panic c) a w') : WL P ops N Q s (o :: l) w := fun a k => by
  have hm := evs k hu
  have hf : a.eval (.func f) = .func (.func f) #[] #[] := rfl
  unfold wpList
  rw [gd_wanted k hg, if_pos rfl]
  refine .inl ?_
  unfold Oper.wp
  have he : (execOp a.eval o).run P w = .ok (.enter f vs) w := by
    unfold execOp
    rw [hop]
    generalize a.eval = e at *
    simp [go_sem, hm, hf, hc]
  rw [he]
  unfold Oper.upon
  refine hr.mono fun e w' q => ?_
  rcases h e w' q with ⟨v, rfl, hv⟩ | ⟨c, rfl, hv⟩
  · rw [hd]
    exact hv a k
  · exact hv a k
end
namespace D
section
variable {P : Program} {ops : Array Oper} {N : ND} {Q : Exit → Act → World → Prop} {s : List (Nat × Value)} {l : List Oper} {o : Oper} {d : Nat} {w : World}
theorem O.panic {x : Operand} {t : TypeId} {v : Value} (hop : o.op = .panic x) (hd : o.dst = none) (hg : gd ops s o = some true) (hu : ev s x = some (.iface t v)) (h : ∀ a, Kn N s a → Q (.panic [{ v := .iface t v, recovered := false }]) a w) : WL P ops N Q s (o :: l) w := fun a k => by
  have hv := k.eval hu
  unfold wpList
  rw [gd_wanted k hg, if_pos rfl]
  refine .inl ?_
  unfold Oper.wp
  have he : (execOp a.eval o).run P w = .halt (.panic (.iface t v)) w := by
    unfold execOp
    rw [hop]
    generalize a.eval = e at *
    simp [go_sem, hv]
    rfl
  rw [he]
  exact h a k
theorem WL.callP {f : Nat} {xs ts : Array _} {vs : Array Value} {R : Ending → World → Prop} (hop : o.op = .call ⟨.value (.func f), xs, ts⟩) (hd : o.dst = some d) (hN : Nat.blt d N.n = true) (hg : gd ops s o = some true) (hu : xs.toList.map (ev s) = vs.toList.map some) (hc : ∀ w, (callFunc f vs).run P w = .ok (.enter f vs) w) (hr : Calls P f vs w R) (h : ∀ e w', R e w' → (∃ v, e = .returned v ∧ WL P ops N Q ((d, v) :: s) l w') ∨ ∃ c, e = .panicked c ∧ ∀ a, Kn N s a → Q (.panic c) a w') : WL P ops N Q s (o :: l) w := fun a k => by
  have hm := evs k hu
  have hf : a.eval (.func f) = .func (.func f) #[] #[] := rfl
  unfold wpList
  rw [gd_wanted k hg, if_pos rfl]
  refine .inl ?_
  unfold Oper.wp
  have he : (execOp a.eval o).run P w = .ok (.enter f vs) w := by
    unfold execOp
    rw [hop]
    generalize a.eval = e at *
    simp [go_sem, hm, hf, hc]
  rw [he]
  unfold Oper.upon
  refine hr.mono fun e w' q => ?_
  rcases h e w' q with ⟨v, rfl, hv⟩ | ⟨c, rfl, hv⟩
  · rw [hd]
    exact hv _ (k.put hN _)
  · exact hv a k
theorem O.callnP {f : Nat} {xs ts : Array _} {vs : Array Value} {R : Ending → World → Prop} (hop : o.op = .call ⟨.value (.func f), xs, ts⟩) (hd : o.dst = none) (hg : gd ops s o = some true) (hu : xs.toList.map (ev s) = vs.toList.map some) (hc : ∀ w, (callFunc f vs).run P w = .ok (.enter f vs) w) (hr : Calls P f vs w R) (h : ∀ e w', R e w' → (∃ v, e = .returned v ∧ WL P ops N Q s l w') ∨ ∃ c, e = .panicked c ∧ ∀ a, Kn N s a → Q (.panic c) a w') : WL P ops N Q s (o :: l) w := fun a k => by
  have hm := evs k hu
  have hf : a.eval (.func f) = .func (.func f) #[] #[] := rfl
  unfold wpList
  rw [gd_wanted k hg, if_pos rfl]
  refine .inl ?_
  unfold Oper.wp
  have he : (execOp a.eval o).run P w = .ok (.enter f vs) w := by
    unfold execOp
    rw [hop]
    generalize a.eval = e at *
    simp [go_sem, hm, hf, hc]
  rw [he]
  unfold Oper.upon
  refine hr.mono fun e w' q => ?_
  rcases h e w' q with ⟨v, rfl, hv⟩ | ⟨c, rfl, hv⟩
  · rw [hd]
    exact hv a k
  · exact hv a k
end
end D
end Go.Proofs.Ytcombjhkbjbncaa
