/-
  Lex (layer 7): what the listed variables hold, for the walks.
-/
import Derived.Test.YtoffbjfgledjfaaDoorLyM
import Derived.Test.YtoffbjfgledjfaaDoorCards
import Derived.Lib.LaidTab
import Derived.Shelf.Vars
namespace Go.Proofs.YtoffbjfgledjfaaDoor
open Go.RowKit
set_option linter.unusedVariables false
set_option linter.unusedSimpArgs false
theorem iface_trod {H : Type} {enc : TypeId × Value → H} {P : Program} {w : World} {base : Nat} {sp : Nat → Bool} {held : Bool} {fuel : Nat} {t : TypeId} {cs : List Value} {nm : String} {d : DataW H} {p : List MemPlace} {ms : Array (String × TypeId)} (ht : P.underlying t = some (.interface ms)) (h : DataW.trod enc P w base sp held fuel t cs = some (.iface nm d, p)) : ∃ u v, cs = [.iface u v] := by
  cases fuel with
  | zero => simp [DataW.trod] at h
  | succ n =>
    unfold DataW.trod at h
    rw [ht] at h
    match cs, h with
    | [], h => simp at h
    | [x], h => cases x <;> first | exact ⟨_, _, rfl⟩ | (simp at h)
    | x :: y :: l, h => simp at h
structure LxLaid (W : World) : Prop where
  er : ErW W
  ml : MlW W
section
variable {P : Program} {W : World} {x1 x2 x3 x4 x5 : String × DataW Unit} {rest : List (String × DataW Unit)}
theorem laid_tl {x : String × DataW Unit} {l : List (String × DataW Unit)} {ps : List MemPlace} (h : DataW.LaidVars P W (x :: l) ps) : ∃ q, DataW.LaidVars P W l q := by
  obtain ⟨_, _, _, _, _, q, _, _, _, _, h, _⟩ := h
  exact ⟨q, h⟩
theorem laid_tab {name : String} {k : IntKind} {zs : List Int} {ps : List MemPlace} {l : List (String × DataW Unit)} {g : Nat} {t e : TypeId} {n : Nat}
    (hg : P.globalNamed name = some g) (hty : (P.globals[g]?).map (·.type) = some t) (ht : P.underlying t = some (.array n e)) (he : P.underlying e = some (.int k)) (hce : P.cellsOf e = 1) (hct : P.cellsOf t = n)
    (h : DataW.LaidVars P W ((name, Lib.tabData k zs) :: l) ps) : Lib.TabIs P W name k zs := by
  obtain ⟨g', t', cs, fuel, p, q, hg', ht', hvar, hd, _, _⟩ := h
  obtain rfl := Option.some.inj (hg.symm.trans hg')
  obtain rfl := Option.some.inj (hty.symm.trans ht')
  unfold Lib.TabIs
  rw [hvar, ← Lib.cells_of_tab ht he hce hct hd]
theorem laid_if {name : String} {nm : String} {d : DataW Unit} {ps : List MemPlace} {l : List (String × DataW Unit)} {g : Nat} {t : TypeId} {ms : Array (String × TypeId)}
    (hg : P.globalNamed name = some g) (hty : (P.globals[g]?).map (·.type) = some t) (ht : P.underlying t = some (.interface ms))
    (h : DataW.LaidVars P W ((name, .iface nm d) :: l) ps) : ∃ u v, W.cell? ⟨g, 0, none⟩ = some (.iface u v) := by
  obtain ⟨g', t', cs, fuel, p, q, hg', ht', hvar, hd, _, _⟩ := h
  obtain rfl := Option.some.inj (hg.symm.trans hg')
  obtain rfl := Option.some.inj (hty.symm.trans ht')
  obtain ⟨u, v, e⟩ := iface_trod ht hd
  refine ⟨u, v, ?_⟩
  have := World.var?_cell hg hvar 0
  rw [this]
  rw [← Array.getElem?_toList, e]
  rfl
end
set_option maxRecDepth 100000 in
theorem lx_laid {W : World} (h : laidMet Tryd.prog [("math/bits.deBruijn32tab", Rows.laid_math_bits_deBruijn32tab), ("math/bits.deBruijn64tab", Rows.laid_math_bits_deBruijn64tab), ("internal/strconv.uint64pow10", Rows.laid_internal_strconv_uint64pow10), ("strconv.ErrRange", Rows.laid_strconv_ErrRange), ("strconv.ErrSyntax", Rows.laid_strconv_ErrSyntax)] W) (hS : W.ShapedOpen Tryd.prog) : LxLaid W := by
  obtain ⟨ps, h, _⟩ := h
  obtain ⟨_, h2⟩ := laid_tl h
  obtain ⟨_, h3⟩ := laid_tl h2
  obtain ⟨_, h4⟩ := laid_tl h3
  obtain ⟨_, h5⟩ := laid_tl h4
  have dE : ∃ u v, W.cell? ⟨2, 0, none⟩ = some (.iface u v) := laid_if (g := 2) (t := 45) (by kernel_rfl) (by kernel_rfl) Tryd.underlying45 h4
  have dS : ∃ u v, W.cell? ⟨1, 0, none⟩ = some (.iface u v) := laid_if (g := 1) (t := 45) (by kernel_rfl) (by kernel_rfl) Tryd.underlying45 h5
  have hml : MlW W := cell_of_shapedOpen_int (zero := #[.int .i64 0]) (t := 3) hS (of_decide_eq_true (by kernel_rfl)) (by kernel_rfl) rfl (by kernel_rfl) (by kernel_rfl) Tryd.underlying3
  exact ⟨⟨dS, dE⟩, hml⟩
end Go.Proofs.YtoffbjfgledjfaaDoor
