/-
  Tables of types (layer 8): IndexFunc and ContainsFunc over fields.
-/
import Derived.Test.YtlhkhgkgjdfcgaaQKindP
import Derived.LoopTactic
import Derived.Outline
namespace Go.Proofs.Ytlhkhgkgjdfcgaa
open Go.RowKit
set_option linter.unusedVariables false
set_option linter.unusedSimpArgs false
/-- A function value that answers P for each of these fields. -/
def AsksF (w : World) (N : Nat) (args : Value → Array Value) (P : Fld → Bool) (fs : List Fld) : Prop :=
  ∀ W, Fr (fun _ => False) w W → ∀ k, k < fs.length → Calls Try.prog N (args (.agg #[.string (fs.getD k fld0).name, .int .i64 (fs.getD k fld0).type, .int .i64 (fs.getD k fld0).off])) W fun r w' => r = .returned (.bool (P (fs.getD k fld0))) ∧ Fr (fun _ => False) W w'
theorem any_at {fs : List Fld} {P : Fld → Bool} {k : Nat} (hk : k < fs.length) (h : P (fs.getD k fld0) = true) (hn : ∀ j, j < k → P (fs.getD j fld0) = false) : fs.findIdx P = k := by
  have e : ∀ j (hj : j < fs.length), fs.getD j fld0 = fs[j] := fun j hj => by rw [List.getD_eq_getElem?_getD, List.getElem?_eq_getElem hj]; rfl
  exact (List.findIdx_eq hk).2 ⟨by rw [← e k hk]; exact h, fun j hj => by rw [← e j (by omega)]; exact hn j hj⟩
theorem any_no {fs : List Fld} {P : Fld → Bool} (hn : ∀ j, j < fs.length → P (fs.getD j fld0) = false) : fs.findIdx P = fs.length := by
  refine List.findIdx_eq_length.2 fun x hx => ?_
  obtain ⟨j, hj, rfl⟩ := List.mem_iff_getElem.1 hx
  have := hn j hj
  rw [List.getD_eq_getElem?_getD, List.getElem?_eq_getElem hj] at this
  exact this
def IdxP (fs : List Fld) (P : Fld → Bool) (w : World) (r : Ending) (w' : World) : Prop :=
  r = .returned (.int .i64 (if fs.findIdx P < fs.length then (fs.findIdx P : Int) else -1)) ∧ Fr (fun _ => False) w w'
theorem idxP_yes {fs : List Fld} {P : Fld → Bool} {w w' : World} {k : Nat} (hk : k < fs.length) (h : P (fs.getD k fld0) = true) (hn : ∀ j, j < k → P (fs.getD j fld0) = false) (hf : Fr (fun _ => False) w w') :
    IdxP fs P w (.returned (.int .i64 k)) w' := by
  unfold IdxP; rw [any_at hk h hn, if_pos hk]; exact ⟨rfl, hf⟩
theorem idxP_no {fs : List Fld} {P : Fld → Bool} {w w' : World} (hn : ∀ j, j < fs.length → P (fs.getD j fld0) = false) (hf : Fr (fun _ => False) w w') :
    IdxP fs P w (.returned (.int .i64 (-1))) w' := by
  unfold IdxP; rw [any_no hn, if_neg (by omega)]; exact ⟨rfl, hf⟩
theorem any_dec {fs : List Fld} {P : Fld → Bool} : decide (0 ≤ (if fs.findIdx P < fs.length then (fs.findIdx P : Int) else -1)) = fs.any P := by
  cases h : fs.any P with
  | true =>
    have : fs.findIdx P < fs.length := List.findIdx_lt_length.2 (by simpa using h)
    rw [if_pos this]; exact decide_eq_true (by omega)
  | false =>
    have : ¬ fs.findIdx P < fs.length := fun hh => by
      have := List.findIdx_lt_length.1 hh
      simp at h
      obtain ⟨x, hx, hp⟩ := this
      rw [h x hx] at hp; cases hp
    rw [if_neg this]; rfl
set_option maxRecDepth 100000 in
set_option maxHeartbeats 4000000 in
theorem index_nameless (w : World) (a : Option Addr) (n c : Nat) (P : Fld → Bool) (fs : List Fld) (hfs : FldAt w a n fs) (hfew : fs.length ≤ 100000) (H : AsksF w 47 (fun v => #[v]) P fs) :
    Calls Try.prog 52 #[.slice a n c, .func (.func 47) #[] #[]] w (IdxP fs P w) := by
  have HC := Lib.hid hfs
  have HA := Lib.hid H
  have HY := Lib.hid (fun (k : Nat) (w' : World) => @idxP_yes fs P w w' k)
  have HNO := Lib.hid (fun (w' : World) => @idxP_no fs P w w')
  have hn := hfs.1
  have hne : n ≤ 100000 := by omega
  have HN := Lib.hid hn
  clear hfs hn hfew H
  go_enter Try.func52, Try.ntmps52
  go_wp2
  go_loopw [8] (fun q wr => ∃ k : Nat, q = .int .i64 k ∧ k ≤ n ∧ Hid ((∀ j, j < k → P (fs.getD j fld0) = false) ∧ Fr (fun _ => False) w wr)) (fun q _ => n - (intOf q).toNat)
  case atStart => exact ⟨0, rfl, Nat.zero_le _, Lib.hid ⟨fun j hj => by omega, Fr.refl _ _⟩⟩
  case round =>
    obtain ⟨k, rfl, hk, HW⟩ := hrel
    by_cases hlt : k < n
    · obtain ⟨g, o, ha, hcell⟩ := HC.out.2 k (by have := HN.out; omega)
      have HCALL : Hid (Calls Try.prog 47 (#[.agg #[.string (fs.getD k fld0).name, .int .i64 (fs.getD k fld0).type, .int .i64 (fs.getD k fld0).off]]) wr fun r w' => r = .returned (.bool (P (fs.getD k fld0))) ∧ Fr (fun _ => False) wr w') := Lib.hid (HA.out wr HW.out.2 k (by have := HN.out; omega))
      obtain ⟨f, hf⟩ : ∃ f, fs.getD k fld0 = f := ⟨_, rfl⟩
      rw [hf] at hcell HCALL
      have HE := Lib.hid hf
      have HJ0 : Hid (∀ j, j < 3 → wr.cell? ⟨g, o + (k * 3 + j), none⟩ = f.vals[j]?) := Lib.hid (fun j hj => by
        have h1 : ∃ x, f.vals[j]? = some x := ⟨_, List.getElem?_eq_getElem (by simpa [Fld.vals] using hj)⟩
        obtain ⟨x, h1⟩ := h1
        rw [h1]
        exact HW.out.2.cell ((hcell j hj).trans h1) id)
      have q0 : wr.cell? ⟨g, o + k * 3, none⟩ = some (.string f.name) := HJ0.out 0 (by decide)
      have q1 : wr.cell? ⟨g, o + k * 3 + 1, none⟩ = some (.int .i64 f.type) := HJ0.out 1 (by decide)
      have q2 : wr.cell? ⟨g, o + k * 3 + 2, none⟩ = some (.int .i64 f.off) := HJ0.out 2 (by decide)
      have t0 : (0 : Int) ≤ k := by omega
      have t1 : (k : Int) < n := by omega
      have HA := Lib.hid ha
      clear hcell hf
      cases hP : P f with
      | true =>
        rw [hP] at HCALL
        have HI : Hid (P (fs.getD k fld0) = true) := Lib.hid (by rw [HE.out]; exact hP)
        rw [ha]
        go_wp2_with (go_at_call 47; (with_reducible refine (HCALL.out).mono ?_); rintro r w2 ⟨rfl, hf⟩; have HV := Lib.hid hf; clear hf)
        go_ret
        exact HY.out k _ (by have := HN.out; omega) HI.out HW.out.1 (HW.out.2.trans HV.out)
      | false =>
        rw [hP] at HCALL
        have HI : Hid (P (fs.getD k fld0) = false) := Lib.hid (by rw [HE.out]; exact hP)
        rw [ha]
        go_wp2_with (go_at_call 47; (with_reducible refine (HCALL.out).mono ?_); rintro r w2 ⟨rfl, hf⟩; have HV := Lib.hid hf; clear hf)
        go_roundw
        case rel => exact ⟨k + 1, by go_num, by omega, Lib.hid ⟨fun j hj => by
          by_cases hjk : j < k
          · exact HW.out.1 j hjk
          · obtain rfl : j = k := by omega
            exact HI.out, HW.out.2.trans HV.out⟩⟩
        case measure => simp [intOf]; omega
    · obtain rfl : n = k := by omega
      go_wp2
      go_ret
      exact HNO.out _ (by rw [← HN.out]; exact HW.out.1) HW.out.2
theorem contains_nameless (w : World) (a : Option Addr) (n c : Nat) (P : Fld → Bool) (fs : List Fld) (hfs : FldAt w a n fs) (hfew : fs.length ≤ 100000) (H : AsksF w 47 (fun v => #[v]) P fs) :
    Calls Try.prog 46 #[.slice a n c, .func (.func 47) #[] #[]] w fun r w' => r = .returned (.bool (fs.any P)) ∧ Fr (fun _ => False) w w' := by
  have HI := Lib.hid (index_nameless w a n c P fs hfs hfew H)
  have HZ := Lib.hid (@any_dec fs P)
  obtain ⟨m, hm⟩ : ∃ m : Int, (if fs.findIdx P < fs.length then (fs.findIdx P : Int) else -1) = m := ⟨_, rfl⟩
  unfold IdxP at HI
  rw [hm] at HI HZ
  have HM := Lib.hid hm
  clear hfs hfew H hm
  go_enter Try.func46, Try.ntmps46
  go_wp2_with (go_at_call 52; (with_reducible refine (HI.out).mono ?_); rintro r w2 ⟨rfl, hf⟩; have HV := Lib.hid hf; clear hf)
  go_ret
  exact ⟨by rw [HZ.out]; rfl, HV.out⟩
set_option maxRecDepth 100000 in
set_option maxHeartbeats 4000000 in
theorem index_typeless (p : Value) (w : World) (a : Option Addr) (n c : Nat) (P : Fld → Bool) (fs : List Fld) (hfs : FldAt w a n fs) (hfew : fs.length ≤ 100000) (H : AsksF w 48 (fun v => #[p, v]) P fs) :
    Calls Try.prog 52 #[.slice a n c, .func (.func 48) #[p] #[]] w (IdxP fs P w) := by
  have HC := Lib.hid hfs
  have HA := Lib.hid H
  have HY := Lib.hid (fun (k : Nat) (w' : World) => @idxP_yes fs P w w' k)
  have HNO := Lib.hid (fun (w' : World) => @idxP_no fs P w w')
  have hn := hfs.1
  have hne : n ≤ 100000 := by omega
  have HN := Lib.hid hn
  clear hfs hn hfew H
  go_enter Try.func52, Try.ntmps52
  go_wp2
  go_loopw [8] (fun q wr => ∃ k : Nat, q = .int .i64 k ∧ k ≤ n ∧ Hid ((∀ j, j < k → P (fs.getD j fld0) = false) ∧ Fr (fun _ => False) w wr)) (fun q _ => n - (intOf q).toNat)
  case atStart => exact ⟨0, rfl, Nat.zero_le _, Lib.hid ⟨fun j hj => by omega, Fr.refl _ _⟩⟩
  case round =>
    obtain ⟨k, rfl, hk, HW⟩ := hrel
    by_cases hlt : k < n
    · obtain ⟨g, o, ha, hcell⟩ := HC.out.2 k (by have := HN.out; omega)
      have HCALL : Hid (Calls Try.prog 48 (#[p, .agg #[.string (fs.getD k fld0).name, .int .i64 (fs.getD k fld0).type, .int .i64 (fs.getD k fld0).off]]) wr fun r w' => r = .returned (.bool (P (fs.getD k fld0))) ∧ Fr (fun _ => False) wr w') := Lib.hid (HA.out wr HW.out.2 k (by have := HN.out; omega))
      obtain ⟨f, hf⟩ : ∃ f, fs.getD k fld0 = f := ⟨_, rfl⟩
      rw [hf] at hcell HCALL
      have HE := Lib.hid hf
      have HJ0 : Hid (∀ j, j < 3 → wr.cell? ⟨g, o + (k * 3 + j), none⟩ = f.vals[j]?) := Lib.hid (fun j hj => by
        have h1 : ∃ x, f.vals[j]? = some x := ⟨_, List.getElem?_eq_getElem (by simpa [Fld.vals] using hj)⟩
        obtain ⟨x, h1⟩ := h1
        rw [h1]
        exact HW.out.2.cell ((hcell j hj).trans h1) id)
      have q0 : wr.cell? ⟨g, o + k * 3, none⟩ = some (.string f.name) := HJ0.out 0 (by decide)
      have q1 : wr.cell? ⟨g, o + k * 3 + 1, none⟩ = some (.int .i64 f.type) := HJ0.out 1 (by decide)
      have q2 : wr.cell? ⟨g, o + k * 3 + 2, none⟩ = some (.int .i64 f.off) := HJ0.out 2 (by decide)
      have t0 : (0 : Int) ≤ k := by omega
      have t1 : (k : Int) < n := by omega
      have HA := Lib.hid ha
      clear hcell hf
      cases hP : P f with
      | true =>
        rw [hP] at HCALL
        have HI : Hid (P (fs.getD k fld0) = true) := Lib.hid (by rw [HE.out]; exact hP)
        rw [ha]
        go_wp2_with (go_at_call 48; (with_reducible refine (HCALL.out).mono ?_); rintro r w2 ⟨rfl, hf⟩; have HV := Lib.hid hf; clear hf)
        go_ret
        exact HY.out k _ (by have := HN.out; omega) HI.out HW.out.1 (HW.out.2.trans HV.out)
      | false =>
        rw [hP] at HCALL
        have HI : Hid (P (fs.getD k fld0) = false) := Lib.hid (by rw [HE.out]; exact hP)
        rw [ha]
        go_wp2_with (go_at_call 48; (with_reducible refine (HCALL.out).mono ?_); rintro r w2 ⟨rfl, hf⟩; have HV := Lib.hid hf; clear hf)
        go_roundw
        case rel => exact ⟨k + 1, by go_num, by omega, Lib.hid ⟨fun j hj => by
          by_cases hjk : j < k
          · exact HW.out.1 j hjk
          · obtain rfl : j = k := by omega
            exact HI.out, HW.out.2.trans HV.out⟩⟩
        case measure => simp [intOf]; omega
    · obtain rfl : n = k := by omega
      go_wp2
      go_ret
      exact HNO.out _ (by rw [← HN.out]; exact HW.out.1) HW.out.2
theorem contains_typeless (p : Value) (w : World) (a : Option Addr) (n c : Nat) (P : Fld → Bool) (fs : List Fld) (hfs : FldAt w a n fs) (hfew : fs.length ≤ 100000) (H : AsksF w 48 (fun v => #[p, v]) P fs) :
    Calls Try.prog 46 #[.slice a n c, .func (.func 48) #[p] #[]] w fun r w' => r = .returned (.bool (fs.any P)) ∧ Fr (fun _ => False) w w' := by
  have HI := Lib.hid (index_typeless p w a n c P fs hfs hfew H)
  have HZ := Lib.hid (@any_dec fs P)
  obtain ⟨m, hm⟩ : ∃ m : Int, (if fs.findIdx P < fs.length then (fs.findIdx P : Int) else -1) = m := ⟨_, rfl⟩
  unfold IdxP at HI
  rw [hm] at HI HZ
  have HM := Lib.hid hm
  clear hfs hfew H hm
  go_enter Try.func46, Try.ntmps46
  go_wp2_with (go_at_call 52; (with_reducible refine (HI.out).mono ?_); rintro r w2 ⟨rfl, hf⟩; have HV := Lib.hid hf; clear hf)
  go_ret
  exact ⟨by rw [HZ.out]; rfl, HV.out⟩
set_option maxRecDepth 100000 in
set_option maxHeartbeats 4000000 in
theorem index_sizeless (p : Value) (w : World) (a : Option Addr) (n c : Nat) (P : Fld → Bool) (fs : List Fld) (hfs : FldAt w a n fs) (hfew : fs.length ≤ 100000) (H : AsksF w 49 (fun v => #[p, v]) P fs) :
    Calls Try.prog 52 #[.slice a n c, .func (.func 49) #[p] #[]] w (IdxP fs P w) := by
  have HC := Lib.hid hfs
  have HA := Lib.hid H
  have HY := Lib.hid (fun (k : Nat) (w' : World) => @idxP_yes fs P w w' k)
  have HNO := Lib.hid (fun (w' : World) => @idxP_no fs P w w')
  have hn := hfs.1
  have hne : n ≤ 100000 := by omega
  have HN := Lib.hid hn
  clear hfs hn hfew H
  go_enter Try.func52, Try.ntmps52
  go_wp2
  go_loopw [8] (fun q wr => ∃ k : Nat, q = .int .i64 k ∧ k ≤ n ∧ Hid ((∀ j, j < k → P (fs.getD j fld0) = false) ∧ Fr (fun _ => False) w wr)) (fun q _ => n - (intOf q).toNat)
  case atStart => exact ⟨0, rfl, Nat.zero_le _, Lib.hid ⟨fun j hj => by omega, Fr.refl _ _⟩⟩
  case round =>
    obtain ⟨k, rfl, hk, HW⟩ := hrel
    by_cases hlt : k < n
    · obtain ⟨g, o, ha, hcell⟩ := HC.out.2 k (by have := HN.out; omega)
      have HCALL : Hid (Calls Try.prog 49 (#[p, .agg #[.string (fs.getD k fld0).name, .int .i64 (fs.getD k fld0).type, .int .i64 (fs.getD k fld0).off]]) wr fun r w' => r = .returned (.bool (P (fs.getD k fld0))) ∧ Fr (fun _ => False) wr w') := Lib.hid (HA.out wr HW.out.2 k (by have := HN.out; omega))
      obtain ⟨f, hf⟩ : ∃ f, fs.getD k fld0 = f := ⟨_, rfl⟩
      rw [hf] at hcell HCALL
      have HE := Lib.hid hf
      have HJ0 : Hid (∀ j, j < 3 → wr.cell? ⟨g, o + (k * 3 + j), none⟩ = f.vals[j]?) := Lib.hid (fun j hj => by
        have h1 : ∃ x, f.vals[j]? = some x := ⟨_, List.getElem?_eq_getElem (by simpa [Fld.vals] using hj)⟩
        obtain ⟨x, h1⟩ := h1
        rw [h1]
        exact HW.out.2.cell ((hcell j hj).trans h1) id)
      have q0 : wr.cell? ⟨g, o + k * 3, none⟩ = some (.string f.name) := HJ0.out 0 (by decide)
      have q1 : wr.cell? ⟨g, o + k * 3 + 1, none⟩ = some (.int .i64 f.type) := HJ0.out 1 (by decide)
      have q2 : wr.cell? ⟨g, o + k * 3 + 2, none⟩ = some (.int .i64 f.off) := HJ0.out 2 (by decide)
      have t0 : (0 : Int) ≤ k := by omega
      have t1 : (k : Int) < n := by omega
      have HA := Lib.hid ha
      clear hcell hf
      cases hP : P f with
      | true =>
        rw [hP] at HCALL
        have HI : Hid (P (fs.getD k fld0) = true) := Lib.hid (by rw [HE.out]; exact hP)
        rw [ha]
        go_wp2_with (go_at_call 49; (with_reducible refine (HCALL.out).mono ?_); rintro r w2 ⟨rfl, hf⟩; have HV := Lib.hid hf; clear hf)
        go_ret
        exact HY.out k _ (by have := HN.out; omega) HI.out HW.out.1 (HW.out.2.trans HV.out)
      | false =>
        rw [hP] at HCALL
        have HI : Hid (P (fs.getD k fld0) = false) := Lib.hid (by rw [HE.out]; exact hP)
        rw [ha]
        go_wp2_with (go_at_call 49; (with_reducible refine (HCALL.out).mono ?_); rintro r w2 ⟨rfl, hf⟩; have HV := Lib.hid hf; clear hf)
        go_roundw
        case rel => exact ⟨k + 1, by go_num, by omega, Lib.hid ⟨fun j hj => by
          by_cases hjk : j < k
          · exact HW.out.1 j hjk
          · obtain rfl : j = k := by omega
            exact HI.out, HW.out.2.trans HV.out⟩⟩
        case measure => simp [intOf]; omega
    · obtain rfl : n = k := by omega
      go_wp2
      go_ret
      exact HNO.out _ (by rw [← HN.out]; exact HW.out.1) HW.out.2
theorem contains_sizeless (p : Value) (w : World) (a : Option Addr) (n c : Nat) (P : Fld → Bool) (fs : List Fld) (hfs : FldAt w a n fs) (hfew : fs.length ≤ 100000) (H : AsksF w 49 (fun v => #[p, v]) P fs) :
    Calls Try.prog 46 #[.slice a n c, .func (.func 49) #[p] #[]] w fun r w' => r = .returned (.bool (fs.any P)) ∧ Fr (fun _ => False) w w' := by
  have HI := Lib.hid (index_sizeless p w a n c P fs hfs hfew H)
  have HZ := Lib.hid (@any_dec fs P)
  obtain ⟨m, hm⟩ : ∃ m : Int, (if fs.findIdx P < fs.length then (fs.findIdx P : Int) else -1) = m := ⟨_, rfl⟩
  unfold IdxP at HI
  rw [hm] at HI HZ
  have HM := Lib.hid hm
  clear hfs hfew H hm
  go_enter Try.func46, Try.ntmps46
  go_wp2_with (go_at_call 52; (with_reducible refine (HI.out).mono ?_); rintro r w2 ⟨rfl, hf⟩; have HV := Lib.hid hf; clear hf)
  go_ret
  exact ⟨by rw [HZ.out]; rfl, HV.out⟩
end Go.Proofs.Ytlhkhgkgjdfcgaa
