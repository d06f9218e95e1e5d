/-
  Regions that draw their order and call yield, in a round, over a frame of which some slots are known.
-/
import Derived.Test.YtdkjeiemjnmdlaaRf
namespace Go.Proofs.Ytdkjeiemjnmdlaa.M
open Go.RowKit
set_option linter.unusedVariables false
set_option linter.unusedSimpArgs false
def WHI (P : Program) (ops : Array Oper) (N : NM) (Q : Exit → Act → World → Prop) (fuel : Nat) (listed : Array Bool) (s : List (Nat × Value)) (w : World) : Prop := ∀ a, Kn N s a → ¬LetsOut Q → wpAnyIn N.F N.d P .any ops Q fuel listed a w
abbrev GoI (P : Program) (ops : Array Oper) (N : NM) (Q : Exit → Act → World → Prop) (fuel : Nat) (listed : Array Bool) : Exit → Act → World → Prop := Exit.then (fun a' w' => ¬LetsOut Q → wpAnyIn N.F N.d P .any ops Q fuel listed a' w') Q
section
variable {P : Program} {ops : Array Oper} {N : NM} {Q : Exit → Act → World → Prop} {s : List (Nat × Value)} {l : List Oper} {o o' : Oper} {d i i' fuel : Nat} {listed : Array Bool} {w : World} {y : Code} {id : Nat}
theorem TW.regHI (hm : P.follows .mixedOrders = true) (h : WHI P l.toArray N Q l.toArray.size (Array.replicate l.toArray.size false) s w.drew) : TW P N Q s (.region id l.toArray true) w := fun a k hq => wpIn_region_any hm (h a k hq)
theorem TW.sregHI (hm : P.follows .mixedOrders = true) (h : WHI P l.toArray N (Exit.then (WP N P Q y) Q) l.toArray.size (Array.replicate l.toArray.size false) s w.drew) : TW P N Q s (.seq (.region id l.toArray true) y) w := TW.seq (TW.regHI hm h)
theorem WHI.take {v : Value} (i : Nat) (hi : ops[i]? = some o) (hro : N.ro = none) (hsel : Region.noSelect ops = true) (hf : Region.free .any ops listed i = true) (hr : (Region.ready .any ops listed).contains i = true) (hQ : ∀ c a (d : Nat) v w, Q (.panic c) (a.put (some d) v) w → Q (.panic c) a w) (hd : o.dst = some d) (hN : Nat.blt d N.n = true) (hg : gd ops s o = some true)
    (hab : ∀ (a : Act) (w : World), o.about P w a.eval = none) (hy : ∀ a, Kn N s a → ∀ w, True → (execOp a.eval o).run P w = .ok (.value v) w) (h : WHI P ops N Q fuel (listed.setIfInBounds i true) ((d, v) :: s) w) : WHI P ops N Q (fuel + 1) listed s w := fun a k hq =>
  wpAnyIn_take (by simpa [NM.F] using hro) hi hsel hf hr (fun c a2 w h => hQ c a2 d _ w (by rw [hd] at h; exact h)) ⟨.inl ⟨gd_wanted k hg, fun w => hy a k w trivial⟩, fun w => hab a w⟩ (by rw [hd]; exact h _ (k.put hN _) hq)
theorem WHI.skip (i : Nat) (hi : ops[i]? = some o) (hro : N.ro = none) (hsel : Region.noSelect ops = true) (hf : Region.free .any ops listed i = true) (hr : (Region.ready .any ops listed).contains i = true) (hQ : ∀ c a (d : Nat) v w, Q (.panic c) (a.put (some d) v) w → Q (.panic c) a w) (hd : o.dst = some d) (hN : Nat.blt d N.n = true) (hg : gd ops s o = some false)
    (hab : ∀ (a : Act) (w : World), o.about P w a.eval = none) (h : WHI P ops N Q fuel (listed.setIfInBounds i true) ((d, undef) :: s) w) : WHI P ops N Q (fuel + 1) listed s w := fun a k hq =>
  wpAnyIn_take (by simpa [NM.F] using hro) hi hsel hf hr (fun c a2 w h => hQ c a2 d _ w (by rw [hd] at h; exact h)) ⟨.inr ⟨gd_wanted k hg, rfl⟩, fun w => hab a w⟩ (by rw [hd]; exact h _ (k.put hN _) hq)
theorem WHI.split {b : Bool} (ht : b = true → WHI P ops N Q fuel listed ((d, .bool true) :: s) w) (hf : b = false → WHI P ops N Q fuel listed ((d, .bool false) :: s) w) : WHI P ops N Q fuel listed ((d, .bool b) :: s) w := by
  cases b
  · exact hf rfl
  · exact ht rfl
theorem wpOpIn_of_list {F : Fence} {n : Nat} {K : Act → World → Prop} {a : Act} (hi : ops[i]? = some o) (h : wpListIn F n P ops (Exit.then K Q) [o] a w) : wpOpIn F n P ops Q i K a w := by
  unfold wpOpIn
  rw [hi]
  exact h
theorem WHI.one (i : Nat) (hr : Region.ready .any ops listed = [i]) (hi : ops[i]? = some o) (h : WLI P ops N (GoI P ops N Q fuel (listed.setIfInBounds i true)) s [o] w) : WHI P ops N Q (fuel + 1) listed s w := fun a k hq =>
  wpAnyIn_all hr (by simp) (fun j hj => by
    have : j = i := by simpa using hj
    subst this
    exact wpOpIn_mono (fun a w q => q hq) (wpOpIn_of_list hi (h a k (no_then hq))))
theorem WHI.two (i i' : Nat) (hr : Region.ready .any ops listed = [i, i']) (hi : ops[i]? = some o) (hi' : ops[i']? = some o') (h : WLI P ops N (GoI P ops N Q fuel (listed.setIfInBounds i true)) s [o] w) (h' : WLI P ops N (GoI P ops N Q fuel (listed.setIfInBounds i' true)) s [o'] w) : WHI P ops N Q (fuel + 1) listed s w := fun a k hq =>
  wpAnyIn_all hr (by simp) (fun j hj => by
    have : j = i ∨ j = i' := by simpa using hj
    rcases this with e | e
    · subst e; exact wpOpIn_mono (fun a w q => q hq) (wpOpIn_of_list hi (h a k (no_then hq)))
    · subst e; exact wpOpIn_mono (fun a w q => q hq) (wpOpIn_of_list hi' (h' a k (no_then hq))))
theorem WLI.fin (h : WHI P ops N Q fuel listed s w) : WLI P ops N (GoI P ops N Q fuel listed) s [] w := fun a k _ => (fun hq => h a k hq : ¬LetsOut Q → _)
theorem WHI.done {N' : NM} (hr : Region.ready .any ops listed = []) (h : TW P N' Q s y w) (e1 : N'.ro = N.ro := by rfl) (e2 : N'.d = N.d := by rfl) (e3 : N'.n = N.n := by rfl) (e4 : N'.ds = N.ds := by rfl) : WHI P ops N (Exit.then (WP N P Q y) Q) fuel listed s w := fun a k hq => wpAnyIn_done hr (WP.of (h a ⟨k.size.trans e3.symm, k.defers.trans (by rw [e4]), k.has⟩) e1 e2 : WP N P Q y a w) _
theorem WHI.end (hr : Region.ready .any ops listed = []) (h : Xw .normal N Q s w) : WHI P ops N Q fuel listed s w := fun a k hq => wpAnyIn_done hr (h a k) _
theorem ab_len {x : Operand} {t : TypeId} (hop : o.op = .call ⟨.builtin .len, #[x], #[t]⟩) : ∀ (a : Act) (w : World), o.about P w a.eval = none := fun a w => by
  unfold Oper.about
  rw [hop]
  simp [go_sem, resolve, Target.leads]
end
theorem ab_no {P : Program} {o : Oper} (hc : (match o.op with | .call _ => false | _ => true) = true) : ∀ (a : Act) (w : World), o.about P w a.eval = none := fun a w => by
  unfold Oper.about
  split
  · rename_i h
    rw [h] at hc
    cases hc
  · rfl
end Go.Proofs.Ytdkjeiemjnmdlaa.M
