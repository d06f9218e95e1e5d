/-
  Listing (layer 6): what the listed variables hold, for the walks.
-/
import Derived.Test.YtlagdgkjpnocfaaGreatDoorQLsP
import Derived.Test.YtlagdgkjpnocfaaGreatDoorQCards
import Derived.Lib.LaidTab
import Derived.Shelf.Vars
namespace Go.Proofs.YtlagdgkjpnocfaaGreatDoor
open Go.RowKit
set_option linter.unusedVariables false
set_option linter.unusedSimpArgs false
theorem iface_trod {H : Type} {enc : TypeId × Value → H} {P : Program} {w : World} {base : Nat} {sp : Nat → Bool} {held : Bool} {fuel : Nat} {t : TypeId} {cs : List Value} {nm : String} {d : DataW H} {p : List MemPlace} {ms : Array (String × TypeId)} (ht : P.underlying t = some (.interface ms)) (h : DataW.trod enc P w base sp held fuel t cs = some (.iface nm d, p)) : ∃ u v, cs = [.iface u v] := by
  cases fuel with
  | zero => simp [DataW.trod] at h
  | succ n =>
    unfold DataW.trod at h
    rw [ht] at h
    match cs, h with
    | [], h => simp at h
    | [x], h => cases x <;> first | exact ⟨_, _, rfl⟩ | (simp at h)
    | x :: y :: l, h => simp at h
structure LsLaid (W : World) : Prop where
  er : ErW W
  ml : MlW W
  tab : TabW W
  db : DbW W
  lt : 7 < W.heap.size
section
variable {P : Program} {W : World} {x1 x2 x3 x4 x5 : String × DataW Unit} {rest : List (String × DataW Unit)}
theorem laid_tl {x : String × DataW Unit} {l : List (String × DataW Unit)} {ps : List MemPlace} (h : DataW.LaidVars P W (x :: l) ps) : ∃ q, DataW.LaidVars P W l q := by
  obtain ⟨_, _, _, _, _, q, _, _, _, _, h, _⟩ := h
  exact ⟨q, h⟩
theorem laid_tab {name : String} {k : IntKind} {zs : List Int} {ps : List MemPlace} {l : List (String × DataW Unit)} {g : Nat} {t e : TypeId} {n : Nat}
    (hg : P.globalNamed name = some g) (hty : (P.globals[g]?).map (·.type) = some t) (ht : P.underlying t = some (.array n e)) (he : P.underlying e = some (.int k)) (hce : P.cellsOf e = 1) (hct : P.cellsOf t = n)
    (h : DataW.LaidVars P W ((name, Lib.tabData k zs) :: l) ps) : Lib.TabIs P W name k zs := by
  obtain ⟨g', t', cs, fuel, p, q, hg', ht', hvar, hd, _, _⟩ := h
  obtain rfl := Option.some.inj (hg.symm.trans hg')
  obtain rfl := Option.some.inj (hty.symm.trans ht')
  unfold Lib.TabIs
  rw [hvar, ← Lib.cells_of_tab ht he hce hct hd]
theorem laid_if {name : String} {nm : String} {d : DataW Unit} {ps : List MemPlace} {l : List (String × DataW Unit)} {g : Nat} {t : TypeId} {ms : Array (String × TypeId)}
    (hg : P.globalNamed name = some g) (hty : (P.globals[g]?).map (·.type) = some t) (ht : P.underlying t = some (.interface ms))
    (h : DataW.LaidVars P W ((name, .iface nm d) :: l) ps) : ∃ u v, W.cell? ⟨g, 0, none⟩ = some (.iface u v) := by
  obtain ⟨g', t', cs, fuel, p, q, hg', ht', hvar, hd, _, _⟩ := h
  obtain rfl := Option.some.inj (hg.symm.trans hg')
  obtain rfl := Option.some.inj (hty.symm.trans ht')
  obtain ⟨u, v, e⟩ := iface_trod ht hd
  refine ⟨u, v, ?_⟩
  have := World.var?_cell hg hvar 0
  rw [this]
  rw [← Array.getElem?_toList, e]
  rfl
end
set_option maxRecDepth 100000 in
theorem ls_laid {W : World} (h : laidMet Tryz.prog [("math/bits.deBruijn32tab", Rows.laid_math_bits_deBruijn32tab), ("math/bits.deBruijn64tab", Rows.laid_math_bits_deBruijn64tab), ("internal/strconv.uint64pow10", Rows.laid_internal_strconv_uint64pow10), ("unicode/utf8.acceptRanges", Rows.laid_unicode_utf8_acceptRanges), ("strconv.ErrRange", Rows.laid_strconv_ErrRange), ("strconv.ErrSyntax", Rows.laid_strconv_ErrSyntax), ("unicode/utf8.first", Rows.laid_unicode_utf8_first)] W) (hS : W.ShapedOpen Tryz.prog) : LsLaid W := by
  obtain ⟨ps, h, _⟩ := h
  obtain ⟨_, h2⟩ := laid_tl h
  obtain ⟨_, h3⟩ := laid_tl h2
  obtain ⟨_, h4⟩ := laid_tl h3
  obtain ⟨_, h5⟩ := laid_tl h4
  obtain ⟨_, h6⟩ := laid_tl h5
  have d64 : Lib.TabIs Tryz.prog W "math/bits.deBruijn64tab" .u8 [0, 1, 56, 2, 57, 49, 28, 3, 61, 58, 42, 50, 38, 29, 17, 4, 62, 47, 59, 36, 45, 43, 51, 22, 53, 39, 33, 30, 24, 18, 12, 5, 63, 55, 48, 27, 60, 41, 37, 16, 46, 35, 44, 21, 52, 32, 23, 11, 54, 26, 40, 15, 34, 20, 31, 10, 25, 14, 19, 9, 13, 8, 7, 6] := laid_tab (g := 7) (t := 167) (e := 5) (n := 64) (by kernel_rfl) (by kernel_rfl) Tryz.underlying167 Tryz.underlying5 (by kernel_rfl) (by kernel_rfl) h2
  have d10 : TabW W := laid_tab (g := 3) (t := 156) (e := 85) (n := 20) (by kernel_rfl) (by kernel_rfl) Tryz.underlying156 Tryz.underlying85 (by kernel_rfl) (by kernel_rfl) h3
  have dE : ∃ u v, W.cell? ⟨2, 0, none⟩ = some (.iface u v) := laid_if (g := 2) (t := 56) (by kernel_rfl) (by kernel_rfl) Tryz.underlying56 h5
  have dS : ∃ u v, W.cell? ⟨1, 0, none⟩ = some (.iface u v) := laid_if (g := 1) (t := 56) (by kernel_rfl) (by kernel_rfl) Tryz.underlying56 h6
  have hml : MlW W := cell_of_shapedOpen_int (zero := #[.int .i64 0]) (t := 3) hS (of_decide_eq_true (by kernel_rfl)) (by kernel_rfl) rfl (by kernel_rfl) (by kernel_rfl) Tryz.underlying3
  have hdb : DbW W := d64.cell (g := 7) (by kernel_rfl) 15 (by decide)
  exact ⟨⟨dS, dE⟩, hml, d10, hdb, blk_lt hdb⟩
end Go.Proofs.YtlagdgkjpnocfaaGreatDoor
