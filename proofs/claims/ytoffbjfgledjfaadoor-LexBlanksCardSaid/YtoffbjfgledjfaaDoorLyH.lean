/-
  Lex (layer 7): a scanner.
-/
import Derived.Test.YtoffbjfgledjfaaDoorLyG
namespace Go.Proofs.YtoffbjfgledjfaaDoor
open Go.RowKit
set_option linter.unusedVariables false
set_option linter.unusedSimpArgs false
set_option linter.unnecessarySimpa false
theorem qlB_string (w : World) (g : Nat) (up0 : ByteArray) (tt : TypeId) (h : Bx w g #[.string up0] tt) : (Instr.loadAt 9 (.pointer (some ⟨g, 0, none⟩))).run Tryd.prog w = .ok (.string up0) w := by
  have c0 := h.cell (j := 0) rfl
  simp [go_sem, c0]
theorem ql_string (w : World) (p : ByteArray) (d : Addr) (h : w.cell? d = some (.string p)) : (Instr.loadAt 9 (.pointer (some d))).run Tryd.prog w = .ok (.string p) w := by simp [go_sem, h]
theorem qk_lex_after (w : World) (vs : Array Value) : (callFunc 14 vs).run Tryd.prog w = .ok (.enter 14 vs) w := by simp [go_sem]
theorem qsA_string (w : World) (g : Nat) (z0 : Value) (up0 : ByteArray) (h : Bx w g #[z0] 9) : ∃ w', (Instr.storeAt 9 (.pointer (some ⟨g, 0, none⟩)) (.string up0)).run Tryd.prog w = .ok () w' ∧ (Fr (fun q => q = g) w w' ∧ Bx w' g #[.string up0] 9) := by
  have c0 := h.cell (j := 0) rfl
  have e0 := h.free 0
  exact ⟨w.setCell ⟨g, 0, none⟩ (.string up0), by simp [go_sem, c0, e0], Fr.setCell _ _ _ rfl, h.set 0 _⟩
set_option maxRecDepth 100000 in
theorem t_adv (r p n : Nat) (s : List UInt8) (l c : Int) (hn : n ≤ s.length) (hs : s.length ≤ 1000000) (hl0 : 0 ≤ l) (hl1 : l ≤ 1000000000) (hc0 : 0 ≤ c) (hc1 : c ≤ 1000000000) (hne : r ≠ p) (w : World) (hr : Bx w r #[bts s] 9) (hp : Bx w p #[.int .i64 l, .int .i64 c] 25) : Calls Tryd.prog 13 #[.int .i64 (n : Int), .pointer (some ⟨p, 0, none⟩), .pointer (some ⟨r, 0, none⟩)] w fun e w' => e = .returned (.tuple #[]) ∧ Bx w' r #[bts (s.drop n)] 9 ∧ Bx w' p #[.int .i64 (afterF (l, c) (s.take n)).1, .int .i64 (afterF (l, c) (s.take n)).2] 25 ∧ Fr (fun q => q = r ∨ q = p) w w' := by
  have ff := Fr.refl (fun q => q = r ∨ q = p) w
  refine calls_tw Tryd.func13 rfl rfl (Nat.le_of_ble_eq_true rfl) ?_
  have hp0 := hp
  have hr0 := hr
  refine TW.sregH (fun W => Fr (fun q => q = p) w W) (by kernel_rfl) ?_
  have fd : Fr (fun _ => False) w w.drew := (Fr.refl _ _).drewN 1
  have HW : Fr (fun q => q = p) w w.drew := (Fr.refl _ _).drewN 1
  replace hp := hp.fr fd id
  replace hr := hr.fr fd id
  replace ff := ff.trans' fd (fun q hq e => e.elim)
  generalize hV : w.drew = V1 at *
  clear hV
  refine WH.take 1 rfl (by kernel_rfl) (by kernel_rfl) (by kernel_rfl) (fun _ _ _ _ _ h => h) rfl rfl rfl HW (RH.load rfl rfl (fun W hW => (qlB_string _ _ _ _ (hr0.fr hW hne)))) ?_
  refine WH.take 2 rfl (by kernel_rfl) (by kernel_rfl) (by kernel_rfl) (fun _ _ _ _ _ h => h) rfl rfl rfl HW (RH.move rfl rfl) ?_
  refine WH.take 3 rfl (by kernel_rfl) (by kernel_rfl) (by kernel_rfl) (fun _ _ _ _ _ h => h) rfl rfl rfl HW (RH.sl2 rfl rfl rfl (fun W hW => (str_to W s n hn))) ?_
  refine WH.one 0 (by kernel_rfl) rfl ?_ 
  refine WL.ld rfl rfl rfl rfl rfl (qlB_api_Pos _ _ _ _ _ hp) ?_
  refine WL.fin HW ?_
  refine WH.one 4 (by kernel_rfl) rfl ?_ 
  refine WL.call (hr := (t_after l c (s.take n) (by rw [List.length_take]; omega) hl0 hl1 hc0 hc1 _)) rfl rfl rfl rfl rfl (fun W => qk_lex_after W _) ?_
  rintro e w1 ⟨rfl, f1⟩
  refine ⟨.agg #[.int .i64 (afterF (l, c) (s.take n)).1, .int .i64 (afterF (l, c) (s.take n)).2], rfl, ?_⟩
  replace hp := hp.fr f1 id
  replace hr := hr.fr f1 id
  replace ff := ff.trans' f1 (fun q hq e => e.elim)
  replace HW := HW.trans' f1 (fun q hq e => e.elim)
  refine WL.fin HW ?_
  refine WH.one 5 (by kernel_rfl) rfl ?_ 
  refine O.storeR rfl rfl rfl rfl rfl (qsA_api_Pos w1 _ _ _ _ _ hp) ?_
  rintro wa1 ⟨fa1, hpx⟩
  replace hr := hr.fr fa1 (fun e => by omega)
  replace ff := ff.trans' fa1 (fun q hq e => by first | exact .inl e | exact .inr e)
  replace HW := HW.trans' fa1 (fun q hq e => by first | exact e | exact Or.inl e | exact Or.inr e | omega)
  clear hp
  have hp := hpx
  clear hpx
  refine WL.fin HW ?_
  refine WH.done (by kernel_rfl) ?_
  refine TW.reg ?_
  refine WL.ld rfl rfl rfl rfl rfl (ql_string _ _ _ (hr.cell (j := 0) rfl)) ?_
  refine WL.op rfl rfl rfl (Go.Proofs.YtoffbjfgledjfaaDoor.W.quiet_move rfl rfl) ?_
  refine O.sl1 rfl rfl rfl rfl rfl rfl (str_from _ s n hn) ?_
  refine O.storeR rfl rfl rfl rfl rfl (qsA_string wa1 _ _ _ hr) ?_
  rintro wa2 ⟨fa2, hrx⟩
  replace hp := hp.fr fa2 (fun e => by omega)
  replace ff := ff.trans' fa2 (fun q hq e => by first | exact .inl e | exact .inr e)
  clear hr
  have hr := hrx
  clear hrx
  refine WL.end ?_
  refine O.end0 rfl ?_
  exact ⟨rfl, hr, hp, ff⟩
end Go.Proofs.YtoffbjfgledjfaaDoor
