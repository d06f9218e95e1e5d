/-
  Tables of types (layer 8): the page's example.
-/
import Derived.Test.YtlhkhgkgjdfcgaaQKindZ
import Derived.Outline
namespace Go.Proofs.Ytlhkhgkgjdfcgaa
open Go.RowKit
set_option linter.unusedVariables false
set_option linter.unusedSimpArgs false
def exS : ByteArray := ⟨#[115]⟩
def exC : ByteArray := ⟨#[99]⟩
def exFs : List Fld := [⟨⟨#[97]⟩, 2, 0⟩, ⟨⟨#[98]⟩, 1, 0⟩, ⟨⟨#[99]⟩, 2, 0⟩]
def exE1 : List Ent := [openE exS]
theorem ex_open : openA [] exS = 3 ∧ openB [] exS = 0 ∧ openL [] exS = exE1 := ⟨by kernel_rfl, by kernel_rfl, by kernel_rfl⟩
theorem ex_find : findK exE1 exS = 0 := by kernel_rfl
theorem ex_struct : structX exE1 exS exFs = 0 := by kernel_rfl
theorem ex_lay : upI (layS exE1 exFs 3).1 (layS exE1 exFs 3).2.1 = 12 := by kernel_rfl
theorem ex_out : (layS exE1 exFs 3).2.2 = [⟨⟨#[97]⟩, 2, 0⟩, ⟨⟨#[98]⟩, 1, 4⟩, ⟨⟨#[99]⟩, 2, 8⟩] := by kernel_rfl
theorem ex_al : (layS exE1 exFs 3).2.1 = 4 := by kernel_rfl
def exE (g c : Nat) : Ent := ⟨5, 0, 0, exS, some ⟨g, 0, none⟩, 3, c, 12, 4⟩
theorem ex_laid (g c : Nat) : laidE exE1 exS exFs g c = exE g c := by
  unfold laidE exE
  rw [show exFs.length = 3 from rfl, ex_lay, ex_al]
theorem ex_set (x : Ent) : exE1.set 0 x = [x] := rfl
theorem ex_ent (g c : Nat) : entF [exE g c] 3 = exE g c := rfl
theorem ex_entE (g c : Nat) : entE [exE g c] 3 = 0 := rfl
theorem ex_fld : fldV [⟨⟨#[97]⟩, 2, 0⟩, ⟨⟨#[98]⟩, 1, 4⟩, ⟨⟨#[99]⟩, 2, 8⟩] exC = ⟨exC, 2, 8⟩ ∧ fldE [⟨⟨#[97]⟩, 2, 0⟩, ⟨⟨#[98]⟩, 1, 4⟩, ⟨⟨#[99]⟩, 2, 8⟩] exC = 0 := ⟨by kernel_rfl, by kernel_rfl⟩
theorem ex_arr (g c : Nat) : arrA [exE g c] 2 3 = 4 ∧ arrB [exE g c] 2 3 = 0 ∧ arrL [exE g c] 2 3 = [exE g c, arrE 2 3 ent2] := ⟨by kernel_rfl, by kernel_rfl, by kernel_rfl⟩
theorem ex_sz (g c : Nat) : (entF [exE g c, arrE 2 3 ent2] 3).size = 12 ∧ (entF [exE g c, arrE 2 3 ent2] 4).size = 3 := ⟨by kernel_rfl, by kernel_rfl⟩
theorem ex_field {g c : Nat} {fss : Nat → List Fld} (h : fss 0 = [⟨⟨#[97]⟩, 2, 0⟩, ⟨⟨#[98]⟩, 1, 4⟩, ⟨⟨#[99]⟩, 2, 8⟩]) : fieldA [exE g c] fss 3 exC = ⟨exC, 2, 8⟩ ∧ fieldB [exE g c] fss 3 exC = 0 := by
  have e0 : entE [exE g c] 3 = 0 := rfl
  have e1 : (entF [exE g c] 3).kind = 5 := rfl
  unfold fieldA fieldB
  rw [e0, e1, show ((3 : Int) - 3).toNat = 0 from rfl, h]
  exact ⟨ex_fld.1, ex_fld.2⟩
def exRow : Array Value := #[.string ⟨#[97]⟩, .int .i64 2, .int .i64 0, .string ⟨#[98]⟩, .int .i64 1, .int .i64 0, .string ⟨#[99]⟩, .int .i64 2, .int .i64 0]
theorem ex_at {w W : World} {b : Nat} (h : W.heap[b]? = some (.cells exRow 53 (0, 0))) : FldAt W (some ⟨b, 0, none⟩) 3 exFs := by
  refine ⟨rfl, fun k hk => ⟨b, 0, rfl, fun j hj => ?_⟩⟩
  rw [cell_of_row _ _ _ exRow 53 (0, 0) h]
  have hk' : k < 3 := hk
  match k, hk', j, hj with
  | 0, _, 0, _ => rfl
  | 0, _, 1, _ => rfl
  | 0, _, 2, _ => rfl
  | 1, _, 0, _ => rfl
  | 1, _, 1, _ => rfl
  | 1, _, 2, _ => rfl
  | 2, _, 0, _ => rfl
  | 2, _, 1, _ => rfl
  | 2, _, 2, _ => rfl
set_option maxRecDepth 100000 in
set_option maxHeartbeats 2000000 in
theorem awake_of (w : World) : Calls Try.prog 9 #[] w fun r w' => r = .returned (.bool true) ∧ Fr (fun _ => False) w w' := by
  have H1 : Hid (∀ W fss, Tab w W w.heap.size [] fss → Calls Try.prog 27 #[.pointer (some ⟨w.heap.size, 0, none⟩), .string ⟨#[115]⟩] W fun r w' => r = .returned (.tuple #[.int .i64 3, .int .i64 0]) ∧ Tab w w' w.heap.size exE1 fss) :=
    Lib.hid (fun W fss hT => by have := open_tab hT exS; rw [ex_open.1, ex_open.2.1, ex_open.2.2] at this; exact this.mono fun r w' h => ⟨h.1, h.2.1⟩)
  have H2 : Hid (∀ W fss, Tab w W w.heap.size exE1 fss → Calls Try.prog 28 #[.pointer (some ⟨w.heap.size, 0, none⟩), .string ⟨#[115]⟩, .slice (some ⟨W.heap.size, 0, none⟩) 3 3] (W.alloc (.cells #[.string ⟨#[97]⟩, .int .i64 2, .int .i64 0, .string ⟨#[98]⟩, .int .i64 1, .int .i64 0, .string ⟨#[99]⟩, .int .i64 2, .int .i64 0] 53)) fun r w' => r = .returned (.tuple #[.int .i64 3, .int .i64 0]) ∧ ∃ g c fs', Tab w w' w.heap.size [exE g c] fs' ∧ fs' 0 = [⟨⟨#[97]⟩, 2, 0⟩, ⟨⟨#[98]⟩, 1, 4⟩, ⟨⟨#[99]⟩, 2, 8⟩]) :=
    Lib.hid (fun W fss hT => (struct_tab (hT.quiet (fr_al (Fr.refl _ _) (.cells exRow 53))) exS (some ⟨W.heap.size, 0, none⟩) 3 3 exFs (ex_at (w := w) (heap_alloc_new _ _)) (by decide) (by decide)).mono fun r w' hr => by
      rcases hr with ⟨h1, _⟩ | ⟨_, h2, g, c, h3, _⟩
      · exact absurd ex_struct h1
      · rw [ex_find] at h2 h3
        rw [ex_set, ex_laid, show exFs.length = 3 from rfl, ex_out] at h3
        exact ⟨h2, g, c, _, h3, by unfold setFs; rw [if_pos rfl]⟩)
  have H3 : Hid (∀ W fss g c, Tab w W w.heap.size [exE g c] fss → fss 0 = [⟨⟨#[97]⟩, 2, 0⟩, ⟨⟨#[98]⟩, 1, 4⟩, ⟨⟨#[99]⟩, 2, 8⟩] → Calls Try.prog 23 #[.pointer (some ⟨w.heap.size, 0, none⟩), .int .i64 3, .string ⟨#[99]⟩] W fun r w' => r = .returned (.tuple #[.agg #[.string ⟨#[99]⟩, .int .i64 2, .int .i64 8], .int .i64 0]) ∧ Tab w w' w.heap.size [exE g c] fss) :=
    Lib.hid (fun W fss g c hT h0 => (field_tab hT 3 exC).mono fun r w' hr => by
      rw [(ex_field h0).1, (ex_field h0).2] at hr
      exact ⟨hr.1, hT.quiet hr.2⟩)
  have H4 : Hid (∀ W fss g c, Tab w W w.heap.size [exE g c] fss → Calls Try.prog 26 #[.pointer (some ⟨w.heap.size, 0, none⟩), .int .i64 2, .int .i64 3] W fun r w' => r = .returned (.tuple #[.int .i64 4, .int .i64 0]) ∧ Tab w w' w.heap.size [exE g c, arrE 2 3 ent2] fss ∧ Turn W w' w.heap.size) :=
    Lib.hid (fun W fss g c hT => by have := array_tab hT 2 3; rw [(ex_arr g c).1, (ex_arr g c).2.1, (ex_arr g c).2.2] at this; exact this)
  have H5 : Hid (∀ W fss g c, Tab w W w.heap.size [exE g c, arrE 2 3 ent2] fss → Calls Try.prog 14 #[.pointer (some ⟨w.heap.size, 0, none⟩), .int .i64 3] W fun r w' => r = .returned (.int .i64 12) ∧ Tab w w' w.heap.size [exE g c, arrE 2 3 ent2] fss) :=
    Lib.hid (fun W fss g c hT => (size_tab hT 3).mono fun r w' hr => by rw [(ex_sz g c).1] at hr; exact ⟨hr.1, hT.quiet hr.2⟩)
  have H6 : Hid (∀ W fss g c, Tab w W w.heap.size [exE g c, arrE 2 3 ent2] fss → Calls Try.prog 14 #[.pointer (some ⟨w.heap.size, 0, none⟩), .int .i64 4] W fun r w' => r = .returned (.int .i64 3) ∧ Tab w w' w.heap.size [exE g c, arrE 2 3 ent2] fss) :=
    Lib.hid (fun W fss g c hT => (size_tab hT 4).mono fun r w' hr => by rw [(ex_sz g c).2] at hr; exact ⟨hr.1, hT.quiet hr.2⟩)
  go_enter Try.func9, Try.ntmps9
  go_wp2_with (first
    | (go_at_call 10; (with_reducible refine (new_tab _).mono ?_); rintro r w1 ⟨rfl, ht⟩; have HT1 := Lib.hid ht; clear ht)
    | (go_at_call 27; (with_reducible refine (H1.out _ _ HT1.out).mono ?_); rintro r w2 ⟨rfl, ht⟩; have HT2 := Lib.hid ht; clear ht)
    | (go_at_call 28; (with_reducible refine (H2.out _ _ HT2.out).mono ?_); rintro r w3 ⟨rfl, g, c, fs', ht, hz⟩; have HT3 := Lib.hid ht; have HZ := Lib.hid hz; clear ht hz)
    | (go_at_call 23; (with_reducible refine (H3.out _ _ _ _ HT3.out HZ.out).mono ?_); rintro r w4 ⟨rfl, ht⟩; have HT4 := Lib.hid (ht.quiet (fr_al (Fr.refl _ _) (.cells #[.string ⟨#[99]⟩, .int .i64 2, .int .i64 8] 53))); have HC4 := Lib.hid (fcell w4 #[.string ⟨#[99]⟩, .int .i64 2, .int .i64 8] 53 2 _ rfl); have HO4 := Lib.hid (ht.off (.cells #[.string ⟨#[99]⟩, .int .i64 2, .int .i64 8] 53)); clear ht)
    | (go_at_call 26; (with_reducible refine (H4.out _ _ _ _ HT4.out).mono ?_); rintro r w5 ⟨rfl, ht, htu⟩; have HT5 := Lib.hid ht; have c5 := htu.cell HC4.out HO4.out; clear ht htu)
    | (go_at_call 14; (with_reducible refine (H5.out _ _ _ _ HT5.out).mono ?_); rintro r w6 ⟨rfl, ht⟩; have HT6 := Lib.hid ht; clear ht)
    | (go_at_call 14; (with_reducible refine (H6.out _ _ _ _ HT6.out).mono ?_); rintro r w7 ⟨rfl, ht⟩; have HT7 := Lib.hid ht; clear ht))
  go_ret
  exact ⟨rfl, HT7.out.fr⟩
end Go.Proofs.Ytlhkhgkgjdfcgaa
