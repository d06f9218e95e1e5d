/-
  Tables of types (layer 8): Size, Align, Scalar, pointer, array. Tables of types (layer 8): Find.
-/
import Derived.Test.YtlhkhgkgjdfcgaaQKindA
import Derived.Outline
import Derived.LoopTactic
namespace Go.Proofs.Ytlhkhgkgjdfcgaa
open Go.RowKit
set_option linter.unusedVariables false
set_option linter.unusedSimpArgs false
theorem size_of (p : Value) (n er : Int) (e : Ent) (w : World) (H : Hid (∀ W, Fr (fun _ => False) w W → Calls Try.prog 33 #[p, .int .i64 n] W fun r w' => r = .returned (.tuple #[.agg #[.int .i64 e.kind, .int .i64 e.elem, .int .i64 e.len, .string e.name, .slice e.fa e.fn e.fc, .int .i64 e.size, .int .i64 e.align], .int .i64 er]) ∧ Fr (fun _ => False) W w'))  :
    Calls Try.prog 14 #[p, .int .i64 n] w fun r w' => r = .returned (.int .i64 e.size) ∧ Fr (fun _ => False) w w' := by
  have HF := Lib.hid (Fr.refl (fun _ => False) w)
  go_enter Try.func14, Try.ntmps14
  go_wp2_with (go_at_call 33; (with_reducible refine (H.out _ HF.out).mono ?_); rintro r w' ⟨rfl, hf⟩; have HV := Lib.hid hf; clear hf)
  go_ret
  exact ⟨rfl, fr_al HV.out _⟩
theorem align_of (p : Value) (n er : Int) (e : Ent) (w : World) (H : Hid (∀ W, Fr (fun _ => False) w W → Calls Try.prog 33 #[p, .int .i64 n] W fun r w' => r = .returned (.tuple #[.agg #[.int .i64 e.kind, .int .i64 e.elem, .int .i64 e.len, .string e.name, .slice e.fa e.fn e.fc, .int .i64 e.size, .int .i64 e.align], .int .i64 er]) ∧ Fr (fun _ => False) W w'))  :
    Calls Try.prog 16 #[p, .int .i64 n] w fun r w' => r = .returned (.int .i64 e.align) ∧ Fr (fun _ => False) w w' := by
  have HF := Lib.hid (Fr.refl (fun _ => False) w)
  go_enter Try.func16, Try.ntmps16
  go_wp2_with (go_at_call 33; (with_reducible refine (H.out _ HF.out).mono ?_); rintro r w' ⟨rfl, hf⟩; have HV := Lib.hid hf; clear hf)
  go_ret
  exact ⟨rfl, fr_al HV.out _⟩
def scalarB (k : Int) : Bool := k == 1 || k == 2 || k == 3
theorem scalar_of (p : Value) (n er : Int) (e : Ent) (w : World) (H : Hid (∀ W, Fr (fun _ => False) w W → Calls Try.prog 33 #[p, .int .i64 n] W fun r w' => r = .returned (.tuple #[.agg #[.int .i64 e.kind, .int .i64 e.elem, .int .i64 e.len, .string e.name, .slice e.fa e.fn e.fc, .int .i64 e.size, .int .i64 e.align], .int .i64 er]) ∧ Fr (fun _ => False) W w'))  :
    Calls Try.prog 19 #[p, .int .i64 n] w fun r w' => r = .returned (.bool (scalarB e.kind)) ∧ Fr (fun _ => False) w w' := by
  have HF := Lib.hid (Fr.refl (fun _ => False) w)
  go_enter Try.func19, Try.ntmps19
  go_wp2_with (go_at_call 33; (with_reducible refine (H.out _ HF.out).mono ?_); rintro r w' ⟨rfl, hf⟩; have HV := Lib.hid hf; clear hf)
  all_goals
    go_ret
    exact ⟨by simp [scalarB, *], fr_al HV.out _⟩
theorem pointer_of (n : Int) (w : World) : Calls Try.prog 37 #[.int .i64 n] w fun r w' => r = .returned (.agg #[.int .i64 3, .int .i64 n, .int .i64 0, .string ⟨#[]⟩, .slice none 0 0, .int .i64 4, .int .i64 4]) ∧ Fr (fun _ => False) w w' := by
  go_enter Try.func37, Try.ntmps37
  go_wp2
  exact bodyPost_ret (v := .agg #[.int .i64 3, .int .i64 n, .int .i64 0, .string ⟨#[]⟩, .slice none 0 0, .int .i64 4, .int .i64 4]) (by simp [results, Try.results37, go_sem]) rfl ⟨rfl, fr_al (Fr.refl _ _) _⟩
theorem array_of (n long : Int) (e : Ent) (hs : 0 ≤ e.size ∧ e.size ≤ 32768) (hl : 1 ≤ long ∧ long ≤ 32768) (w : World) : Calls Try.prog 38 #[.int .i64 n, .agg #[.int .i64 e.kind, .int .i64 e.elem, .int .i64 e.len, .string e.name, .slice e.fa e.fn e.fc, .int .i64 e.size, .int .i64 e.align], .int .i64 long] w fun r w' => r = .returned (.agg #[.int .i64 4, .int .i64 n, .int .i64 long, .string ⟨#[]⟩, .slice none 0 0, .int .i64 (long * e.size), .int .i64 e.align]) ∧ Fr (fun _ => False) w w' := by
  obtain ⟨s0, s1⟩ := hs
  obtain ⟨l0, l1⟩ := hl
  have m0 : 0 ≤ long * e.size := Int.mul_nonneg (by omega) s0
  have m1 : long * e.size ≤ 32768 * 32768 := Int.mul_le_mul l1 s1 s0 (by decide)
  go_enter Try.func38, Try.ntmps38
  go_wp2
  exact bodyPost_ret (v := .agg #[.int .i64 4, .int .i64 n, .int .i64 long, .string ⟨#[]⟩, .slice none 0 0, .int .i64 (long * e.size), .int .i64 e.align]) (by simp [results, Try.results38, go_sem]) rfl ⟨rfl, fr_al (fr_al (Fr.refl _ _) _) _⟩
def isName (nm : ByteArray) (e : Ent) : Bool := e.kind == 5 && e.name.toList == nm.toList
def findK (es : List Ent) (nm : ByteArray) : Nat := es.findIdx (isName nm)
theorem find_at {es : List Ent} {nm : ByteArray} {k : Nat} (hk : k < es.length) (h : isName nm (es.getD k ent0) = true) (hn : ∀ j, j < k → isName nm (es.getD j ent0) = false) : findK es nm = k := by
  have e : ∀ j (hj : j < es.length), es.getD j ent0 = es[j] := fun j hj => by rw [List.getD_eq_getElem?_getD, List.getElem?_eq_getElem hj]; rfl
  exact (List.findIdx_eq hk).2 ⟨by rw [← e k hk]; exact h, fun j hj => by rw [← e j (by omega)]; exact hn j hj⟩
theorem find_no {es : List Ent} {nm : ByteArray} (hn : ∀ j, j < es.length → isName nm (es.getD j ent0) = false) : findK es nm = es.length := by
  refine List.findIdx_eq_length.2 fun x hx => ?_
  obtain ⟨j, hj, rfl⟩ := List.mem_iff_getElem.1 hx
  have := hn j hj
  rw [List.getD_eq_getElem?_getD, List.getElem?_eq_getElem hj] at this
  exact this
def FindP (es : List Ent) (nm : ByteArray) (w : World) (r : Ending) (w' : World) : Prop :=
  r = .returned (.tuple #[.int .i64 (if findK es nm < es.length then 3 + (findK es nm : Int) else 0), .int .i64 (if findK es nm < es.length then 0 else 4)]) ∧ Fr (fun _ => False) w w'
theorem findP_yes {es : List Ent} {nm : ByteArray} {w w' : World} {k : Nat} (hk : k < es.length) (h : isName nm (es.getD k ent0) = true) (hn : ∀ j, j < k → isName nm (es.getD j ent0) = false) (hf : Fr (fun _ => False) w w') : FindP es nm w (.returned (.tuple #[.int .i64 (3 + k), .int .i64 0])) w' := by
  unfold FindP; rw [find_at hk h hn, if_pos hk, if_pos hk]; exact ⟨rfl, hf⟩
theorem findP_no {es : List Ent} {nm : ByteArray} {w w' : World} (hn : ∀ j, j < es.length → isName nm (es.getD j ent0) = false) (hf : Fr (fun _ => False) w w') : FindP es nm w (.returned (.tuple #[.int .i64 0, .int .i64 4])) w' := by
  unfold FindP; rw [find_no hn, if_neg (by omega), if_neg (by omega)]; exact ⟨rfl, hf⟩
theorem find_nil (nm : ByteArray) (w : World) : Calls Try.prog 21 #[.pointer none, .string nm] w fun r w' => r = .returned (.tuple #[.int .i64 0, .int .i64 1]) ∧ w = w' := by
  go_enter Try.func21, Try.ntmps21
  go_wp2
  go_ret2
  exact ⟨rfl, rfl⟩
set_option maxRecDepth 100000 in
set_option maxHeartbeats 4000000 in
theorem find_of {base : Nat} {w : World} {tb : Nat} {v : Value} {es : List Ent} (h : TabAt base w tb v es) (nm : ByteArray) :
    Calls Try.prog 21 #[.pointer (some ⟨tb, 0, none⟩), .string nm] w (FindP es nm w) := by
  obtain ⟨a, c, rfl, hc⟩ := h.form
  have hf := h.few
  have hx := h.cell
  have HC := Lib.hid hc
  have HY := Lib.hid (fun (k : Nat) (w' : World) => @findP_yes es nm w w' k)
  have HNO := Lib.hid (fun (w' : World) => @findP_no es nm w w')
  obtain ⟨n, hn⟩ : ∃ n, es.length = n := ⟨_, rfl⟩
  rw [hn] at hx hf
  have HN := Lib.hid hn
  clear h hc hn
  go_enter Try.func21, Try.ntmps21
  go_wp2
  go_loopw [15] (fun q wr => ∃ k : Nat, q = .int .i64 k ∧ k ≤ n ∧ Hid ((∀ j, j < k → isName nm (es.getD j ent0) = false) ∧ Fr (fun _ => False) w wr)) (fun q _ => n - (intOf q).toNat)
  case atStart => exact ⟨0, rfl, Nat.zero_le _, Lib.hid ⟨fun j hj => by omega, Fr.refl _ _⟩⟩
  case round =>
    obtain ⟨k, rfl, hk, HW⟩ := hrel
    by_cases hlt : k < n
    · obtain ⟨g, rfl, lg, hcell⟩ := HC.out k (by rw [HN.out]; exact hlt)
      obtain ⟨e, he⟩ : ∃ e, es.getD k ent0 = e := ⟨_, rfl⟩
      rw [he] at hcell
      have HE := Lib.hid he
      have HJ : Hid (∀ (o : Obj) j, j < 7 → (wr.alloc o).cell? ⟨g, k * 7 + j, none⟩ = e.vals[j]?) := Lib.hid (fun o j hj => by
        have h1 : ∃ x, e.vals[j]? = some x := ⟨_, List.getElem?_eq_getElem (by simpa [Ent.vals] using hj)⟩
        obtain ⟨x, h1⟩ := h1
        rw [h1]
        exact (fr_al HW.out.2 o).cell ((hcell j hj).trans h1) id)
      have HJ0 : Hid (∀ j, j < 7 → wr.cell? ⟨g, k * 7 + j, none⟩ = e.vals[j]?) := Lib.hid (fun j hj => by
        have h1 : ∃ x, e.vals[j]? = some x := ⟨_, List.getElem?_eq_getElem (by simpa [Ent.vals] using hj)⟩
        obtain ⟨x, h1⟩ := h1
        rw [h1]
        exact HW.out.2.cell ((hcell j hj).trans h1) id)
      have q0 : wr.cell? ⟨g, k * 7, none⟩ = some (.int .i64 e.kind) := HJ0.out 0 (by decide)
      have q1 : wr.cell? ⟨g, k * 7 + 1, none⟩ = some (.int .i64 e.elem) := HJ0.out 1 (by decide)
      have q2 : wr.cell? ⟨g, k * 7 + 2, none⟩ = some (.int .i64 e.len) := HJ0.out 2 (by decide)
      have q3 : wr.cell? ⟨g, k * 7 + 3, none⟩ = some (.string e.name) := HJ0.out 3 (by decide)
      have q4 : wr.cell? ⟨g, k * 7 + 4, none⟩ = some (.slice e.fa e.fn e.fc) := HJ0.out 4 (by decide)
      have q5 : wr.cell? ⟨g, k * 7 + 5, none⟩ = some (.int .i64 e.size) := HJ0.out 5 (by decide)
      have q6 : wr.cell? ⟨g, k * 7 + 6, none⟩ = some (.int .i64 e.align) := HJ0.out 6 (by decide)
      have t0 : (0 : Int) ≤ k := by omega
      have t1 : (k : Int) < n := by omega
      clear hcell he hx
      by_cases h5 : e.kind = 5
      · by_cases hne : (e.name.toList == nm.toList) = true
        · have HI : Hid (isName nm (es.getD k ent0) = true) := Lib.hid (by rw [HE.out]; unfold isName; rw [h5, hne]; rfl)
          go_wp2
          go_ret2
          exact HY.out k _ (by rw [HN.out]; exact hlt) HI.out HW.out.1 (fr_al HW.out.2 _)
        · have hnb : (e.name.toList == nm.toList) = false := by simpa using hne
          have HI : Hid (isName nm (es.getD k ent0) = false) := Lib.hid (by rw [HE.out]; unfold isName; rw [hnb]; simp)
          go_wp2
          go_roundw
          case rel => exact ⟨k + 1, by go_num, by omega, Lib.hid ⟨fun j hj => by
            by_cases hjk : j < k
            · exact HW.out.1 j hjk
            · obtain rfl : j = k := by omega
              exact HI.out, fr_al HW.out.2 _⟩⟩
          case measure => simp [intOf]; omega
      · have h5b : (e.kind == 5) = false := by rw [beq_eq_false_iff_ne]; exact h5
        have HI : Hid (isName nm (es.getD k ent0) = false) := Lib.hid (by rw [HE.out]; unfold isName; rw [h5b]; simp)
        go_wp2
        go_roundw
        case rel => exact ⟨k + 1, by go_num, by omega, Lib.hid ⟨fun j hj => by
          by_cases hjk : j < k
          · exact HW.out.1 j hjk
          · obtain rfl : j = k := by omega
            exact HI.out, fr_al HW.out.2 _⟩⟩
        case measure => simp [intOf]; omega
    · obtain rfl : n = k := by omega
      go_wp2
      go_ret2
      exact HNO.out _ (by rw [HN.out]; exact HW.out.1) HW.out.2
end Go.Proofs.Ytlhkhgkgjdfcgaa
