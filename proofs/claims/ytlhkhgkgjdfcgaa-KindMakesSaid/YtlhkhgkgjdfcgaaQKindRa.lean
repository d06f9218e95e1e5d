/-
  Tables of types (layer 8): Type at a table: its fields are a copy.
-/
import Derived.Test.YtlhkhgkgjdfcgaaQKindPa
import Derived.Deep.AppendLies
import Derived.WalkLawsBesides
import Derived.Outline
namespace Go.Proofs.Ytlhkhgkgjdfcgaa
open Go.RowKit
set_option linter.unusedVariables false
set_option linter.unusedSimpArgs false
theorem own_empty (w : World) (e size : Nat) : (w.alloc (.cells #[] e)).ownsRow w.heap.size e size (.slice (some ⟨w.heap.size, 0, none⟩) 0 0) 0 [] :=
  ⟨by simp, .inr ⟨w.heap.size, 0, #[], rfl, Nat.le_refl _, heap_alloc_new _ _, Nat.le_refl _, Nat.zero_le _, by simp, by simp⟩⟩
theorem nil_is (w : World) : Sem.run Try.prog (binOp BinOp.eql 33 (.slice none 0 0) (.slice none 0 0)) w = .ok (.bool true) w := by kernel_rfl
theorem nil_not (g o n c : Nat) (w : World) : Sem.run Try.prog (binOp BinOp.eql 33 (.slice (some ⟨g, o, none⟩) n c) (.slice none 0 0)) w = .ok (.bool false) w := by kernel_rfl
theorem clone_nil (w : World) : Calls Try.prog 34 #[.slice none 0 0] w fun r w' => r = .returned (.slice none 0 0) ∧ w = w' := by
  have hnil := nil_is
  go_enter Try.func34, Try.ntmps34
  go_wp2
  go_ret
  exact ⟨rfl, rfl⟩
theorem one_vals (fs : List Fld) : ∀ u ∈ fs.flatMap Fld.vals, u.oneCell' = true := by
  intro u hu
  obtain ⟨f, _, hf⟩ := List.mem_flatMap.1 hu
  simp only [Fld.vals, List.mem_cons, List.not_mem_nil, or_false] at hf
  rcases hf with rfl | rfl | rfl <;> rfl
theorem fld_news {w : World} {g o n : Nat} {fs : List Fld} (h : FldAt w (some ⟨g, o, none⟩) n fs) : ∀ j u, (fs.flatMap Fld.vals)[j]? = some u → w.cell? ((⟨g, o, none⟩ : Addr).add j) = some u := by
  intro j u hu
  have hj : j < (fs.flatMap Fld.vals).length := (List.getElem?_eq_some_iff.1 hu).1
  rw [fvals_len] at hj
  have hk : j / 3 < fs.length := by omega
  obtain ⟨g', o', e, hc⟩ := h.2 (j / 3) hk
  injection e with e
  injection e with e1 e2
  subst e1 e2
  have h1 := hc (j % 3) (by omega)
  have e3 : j / 3 * 3 + j % 3 = j := by omega
  rw [e3] at h1
  rw [Addr.add_lit, h1, ← fvals_get fs (j / 3) hk (j % 3) (by omega), e3, hu]
set_option maxRecDepth 100000 in
set_option maxHeartbeats 1000000 in
theorem clone_at (w : World) (g o n c : Nat) (fs : List Fld) (h : FldAt w (some ⟨g, o, none⟩) n fs) (hn : 1 ≤ fs.length ∧ fs.length ≤ 1000) :
    Calls Try.prog 34 #[.slice (some ⟨g, o, none⟩) n c] w fun r w' => ∃ g2 c2, r = .returned (.slice (some ⟨g2, 0, none⟩) n c2) ∧ FldAt w' (some ⟨g2, 0, none⟩) n fs ∧ Fr (fun _ => False) w w' ∧ w.heap.size ≤ g2 ∧ g2 < w'.heap.size := by
  obtain ⟨i0, hi0, hz0, hz1, hz2⟩ := info_parts info_field
  have HL := Lib.hid h.1
  have HNEWS := Lib.hid (fld_news (h.quiet (fr_al (Fr.refl _ _) (.cells #[] 53))))
  have hlen := fvals_len fs
  have hnn := h.1
  have HF := Lib.hid (fr_al (Fr.refl (fun _ => False) w) (.cells #[] 53))
  have hl3 : (fs.flatMap Fld.vals).length = n * 3 := by rw [hlen, ← hnn]
  have hm0 : 0 < n := by omega
  have hm1 : n ≤ 1000 := by omega
  have hnil := nil_not g o n c
  clear h hnn hlen hn
  go_enter Try.func34, Try.ntmps34
  go_wp2_with (at_builtin; (refine wpList_append_lies _ (by rfl) _ _ 33 (by rfl) w.heap.size 53 i0 _ 3 32 Try.underlying33 hi0 hz0 hz1 hz2 rfl (by decide) (.slice (some ⟨w.heap.size, 0, none⟩) 0 0) 0 [] (by rfl) (own_empty w _ _) ⟨g, o, none⟩ n c (fs.flatMap Fld.vals) (by rfl) hl3 HNEWS.out (one_vals fs) hm0 (by unfold maxLen; omega) (by omega) (by simp) _ rfl ?_; intro gg cap w5 hown5 hgrow5 hat5 hlt5; have HO5 := Lib.hid hown5; have HG5 := Lib.hid hgrow5; have HA5 := Lib.hid hat5; clear hown5 hgrow5 hat5))
  go_ret
  have ho := HO5.out
  simp only [Nat.zero_add, List.nil_append] at ho
  refine ⟨gg, cap, by simp, FldAt.of_own ho HL.out, HF.out.trans' (Fr.of_by HG5.out) (fun j hj e => by simp only [Value.ownBlock, Option.some.injEq] at e; omega), ?_, hlt5⟩
  exact (ho.lt gg rfl).1
end Go.Proofs.Ytlhkhgkgjdfcgaa
