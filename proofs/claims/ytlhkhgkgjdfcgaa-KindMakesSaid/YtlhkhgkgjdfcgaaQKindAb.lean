/-
  The document's own tables of types (layer 8): may.
-/
import Derived.Test.YtlhkhgkgjdfcgaaQKindZa
import Derived.LoopTactic
import Derived.Deep.QuietTactic
import Derived.BigQuiet
import Derived.Outline
namespace Go.Proofs.Ytlhkhgkgjdfcgaa
open Go.RowKit
set_option linter.unusedVariables false
set_option linter.unusedSimpArgs false
def noRT (rs : List RT) (f : Fld) : Bool := !rin rs f.type
def noRS (sz : Int → Int) (f : Fld) : Bool := sz f.type == 0
def sameN (f h : Fld) : Bool := f.name.toList == h.name.toList
/-- Two fields of one name. -/
def dupB (fs : List Fld) : Bool := (List.range fs.length).any fun i => (List.range i).any fun k => sameN (fs.getD k fld0) (fs.getD i fld0)
/-- The document's error of fields. -/
def mayV (rs : List RT) (sz : Int → Int) (fs : List Fld) : Int :=
  if fs.length = 0 then 1 else if fs.any noName then 1 else if fs.any (noRT rs) then 4 else if fs.any (noRS sz) then 5 else if dupB fs then 6 else 0
theorem any_yes {fs : List Fld} {P : Fld → Bool} {k : Nat} (hk : k < fs.length) (h : P (fs.getD k fld0) = true) : fs.any P = true := List.any_eq_true.2 ⟨_, getD_mem hk, h⟩
theorem any_not {fs : List Fld} {P : Fld → Bool} (h : ∀ j, j < fs.length → P (fs.getD j fld0) = false) : fs.any P = false := by
  rw [List.any_eq_false]
  intro f hf
  obtain ⟨i, hi, rfl⟩ := List.mem_iff_getElem.1 hf
  have := h i hi
  rw [List.getD_eq_getElem?_getD, List.getElem?_eq_getElem hi] at this
  have e : P fs[i] = false := this
  rw [e]; decide
theorem dup_yes {fs : List Fld} {i k : Nat} (hi : i < fs.length) (hk : k < i) (h : sameN (fs.getD k fld0) (fs.getD i fld0) = true) : dupB fs = true :=
  List.any_eq_true.2 ⟨i, List.mem_range.2 hi, List.any_eq_true.2 ⟨k, List.mem_range.2 hk, h⟩⟩
theorem dup_not {fs : List Fld} (h : ∀ i, i < fs.length → ∀ k, k < i → sameN (fs.getD k fld0) (fs.getD i fld0) = false) : dupB fs = false := by
  unfold dupB
  rw [List.any_eq_false]
  intro i hi
  rw [Bool.not_eq_true, List.any_eq_false]
  intro k hk
  rw [h i (List.mem_range.1 hi) k (List.mem_range.1 hk)]
  decide
theorem nxt {P : Nat → Prop} {k : Nat} (h : ∀ j, j < k → P j) (hk : P k) : ∀ j, j < k + 1 → P j := fun j hj => by
  by_cases e : j < k
  · exact h j e
  · have : j = k := by omega
    rw [this]; exact hk
set_option maxRecDepth 100000 in
set_option maxHeartbeats 4000000 in
theorem may_of {rs : List RT} {F : Nat → List Fld} {sz al : Int → Int} {rk : Int → Nat} (D : Doc rs F sz al rk) (hfew : rs.length ≤ 1000) (w : World) (a : Option Addr) (c : Nat) (h : DocAt w a rs F) (fa : Option Addr) (fn fc : Nat) (fs : List Fld) (hfs : FldAt w fa fn fs) (hf1 : fs.length ≤ 1000) :
    Calls Try.prog 44 #[.slice a rs.length c, .slice fa fn fc] w fun r w' => r = .returned (.int .i64 (mayV rs sz fs)) ∧ Fr (fun _ => False) w w' := by
  have hn := hfs.1
  have hfn : fn ≤ 1000 := by omega
  have HN := Lib.hid hn
  have HC := Lib.hid hfs
  have HR := Lib.hid (Fr.refl (fun _ => False) w)
  have HIS : Hid (∀ m W, Calls Try.prog 24 #[.slice a rs.length c, .int .i64 m] W fun r w' => r = .returned (.bool (rin rs m)) ∧ W = w') := Lib.hid (fun m W => is_of a rs.length c m W)
  have HSZ : Hid (∀ m W, Fr (fun _ => False) w W → Calls Try.prog 15 #[.slice a rs.length c, .int .i64 m] W fun r w' => r = .returned (.int .i64 (sz m)) ∧ Fr (fun _ => False) W w') := Lib.hid (fun m W hW => rsize_of D hfew (rk m) m (Nat.le_refl _) W a c (h.quiet hW))
  have hv : mayV rs sz fs = if fs.length = 0 then 1 else if fs.any noName then 1 else if fs.any (noRT rs) then 4 else if fs.any (noRS sz) then 5 else if dupB fs then 6 else 0 := rfl
  obtain ⟨V, hV⟩ : ∃ V, mayV rs sz fs = V := ⟨_, rfl⟩
  rw [hV] at hv ⊢
  rw [← hn] at hv
  have HV := Lib.hid hv
  generalize rs.length = L at *
  clear D h hfs hn hf1 hv hV hfew
  by_cases h0 : fn = 0
  · have hv1 := HV.out
    rw [if_pos h0] at hv1
    subst h0
    rw [hv1]
    go_enter Try.func44, Try.ntmps44
    go_wp2
    go_ret
    exact ⟨rfl, HR.out⟩
  · have h0b : ((fn : Int) == 0) = false := by rw [beq_eq_false_iff_ne]; omega
    have HV2 : Hid (V = if fs.any noName then 1 else if fs.any (noRT rs) then 4 else if fs.any (noRS sz) then 5 else if dupB fs then 6 else 0) := Lib.hid (by have := HV.out; rw [if_neg h0] at this; exact this)
    clear HV h0
    go_enter Try.func44, Try.ntmps44
    go_wp2
    go_loopw [5] (fun q wl => ∃ k : Nat, q = .int .i64 k ∧ k ≤ fn ∧ Hid (∀ j, j < k → noName (fs.getD j fld0) = false) ∧ Hid (Fr (fun _ => False) w wl)) (fun q _ => fn - (intOf q).toNat)
    case atStart => exact ⟨0, rfl, Nat.zero_le _, Lib.hid fun j hj => by omega, HR⟩
    case round =>
      obtain ⟨k, rfl, hk, HA1, HW⟩ := hrel
      by_cases hlt : k < fn
      · obtain ⟨g, o, ha, hcell⟩ := (HC.out.quiet HW.out).2 k (by have := HN.out; omega)
        obtain ⟨f, hf⟩ : ∃ f, fs.getD k fld0 = f := ⟨_, rfl⟩
        rw [hf] at hcell
        have HE := Lib.hid hf
        have y0 : wr.cell? ⟨g, o + k * 3, none⟩ = some (.string f.name) := hcell 0 (by decide)
        have t0 : (0 : Int) ≤ k := by omega
        have t1 : (k : Int) < fn := by omega
        clear hcell hf
        subst ha
        cases he : f.name.toList.isEmpty with
        | true =>
          have hb1 : (f.name.toList == []) = true := by cases hl : f.name.toList with | nil => rfl | cons x t => rw [hl] at he; cases he
          have hb2 : f.name.toList = [] := by simpa using hb1
          have HX : Hid (V = 1) := Lib.hid (by have := HV2.out; rw [any_yes (P := noName) (by have := HN.out; omega : k < fs.length) (by rw [HE.out]; exact he)] at this; exact this)
          go_wp2
          go_ret
          exact ⟨by rw [HX.out]; rfl, HW.out⟩
        | false =>
          have hb1 : (f.name.toList == []) = false := by cases hl : f.name.toList with | nil => rw [hl] at he; cases he | cons x t => rfl
          have hb2 : ¬ f.name.toList = [] := fun e => by rw [e] at he; cases he
          go_wp2
          go_roundw
          case rel => exact ⟨k + 1, by go_num, by omega, Lib.hid (nxt HA1.out (by rw [HE.out]; exact he)), HW⟩
          case measure => simp [intOf]; omega
      · obtain rfl : fn = k := by omega
        have HV3 : Hid (V = if fs.any (noRT rs) then 4 else if fs.any (noRS sz) then 5 else if dupB fs then 6 else 0) := Lib.hid (by have := HV2.out; rw [any_not (P := noName) (by rw [← HN.out]; exact HA1.out)] at this; exact this)
        clear HA1 HV2 hlt hk
        go_wp2
        go_loopw [6] (fun q wl => ∃ k : Nat, q = .int .i64 k ∧ k ≤ fn ∧ Hid (∀ j, j < k → noRT rs (fs.getD j fld0) = false) ∧ Hid (Fr (fun _ => False) w wl)) (fun q _ => fn - (intOf q).toNat)
        case atStart => exact ⟨0, rfl, Nat.zero_le _, Lib.hid fun j hj => by omega, HW⟩
        case round =>
          obtain ⟨k, rfl, hk, HA1, HW⟩ := hrel
          by_cases hlt : k < fn
          · obtain ⟨g, o, ha, hcell⟩ := (HC.out.quiet HW.out).2 k (by have := HN.out; omega)
            obtain ⟨f, hf⟩ : ∃ f, fs.getD k fld0 = f := ⟨_, rfl⟩
            rw [hf] at hcell
            have HE := Lib.hid hf
            have y0 : wr.cell? ⟨g, o + k * 3 + 1, none⟩ = some (.int .i64 f.type) := hcell 1 (by decide)
            have t0 : (0 : Int) ≤ k := by omega
            have t1 : (k : Int) < fn := by omega
            clear hcell hf
            subst ha
            cases he : rin rs f.type with
            | true =>
              have HI := Lib.hid (HIS.out f.type wr)
              rw [he] at HI
              go_wp2_with (go_at_call 24; (with_reducible refine (HI.out).mono ?_); rintro r w1 ⟨rfl, rfl⟩)
              go_roundw
              case rel => exact ⟨k + 1, by go_num, by omega, Lib.hid (nxt HA1.out (by rw [HE.out]; unfold noRT; rw [he]; rfl)), HW⟩
              case measure => simp [intOf]; omega
            | false =>
              have HI := Lib.hid (HIS.out f.type wr)
              rw [he] at HI
              have HX : Hid (V = 4) := Lib.hid (by have := HV3.out; rw [any_yes (P := noRT rs) (by have := HN.out; omega : k < fs.length) (by rw [HE.out]; unfold noRT; rw [he]; rfl)] at this; exact this)
              go_wp2_with (go_at_call 24; (with_reducible refine (HI.out).mono ?_); rintro r w1 ⟨rfl, rfl⟩)
              go_ret
              exact ⟨by rw [HX.out]; rfl, HW.out⟩
          · obtain rfl : fn = k := by omega
            have HV4 : Hid (V = if fs.any (noRS sz) then 5 else if dupB fs then 6 else 0) := Lib.hid (by have := HV3.out; rw [any_not (P := noRT rs) (by rw [← HN.out]; exact HA1.out)] at this; exact this)
            clear HA1 HV3 hlt hk
            go_wp2
            go_loopw [7] (fun q wl => ∃ k : Nat, q = .int .i64 k ∧ k ≤ fn ∧ Hid (∀ j, j < k → noRS sz (fs.getD j fld0) = false) ∧ Hid (Fr (fun _ => False) w wl)) (fun q _ => fn - (intOf q).toNat)
            case atStart => exact ⟨0, rfl, Nat.zero_le _, Lib.hid fun j hj => by omega, HW⟩
            case round =>
              obtain ⟨k, rfl, hk, HA1, HW⟩ := hrel
              by_cases hlt : k < fn
              · obtain ⟨g, o, ha, hcell⟩ := (HC.out.quiet HW.out).2 k (by have := HN.out; omega)
                obtain ⟨f, hf⟩ : ∃ f, fs.getD k fld0 = f := ⟨_, rfl⟩
                rw [hf] at hcell
                have HE := Lib.hid hf
                have y0 : wr.cell? ⟨g, o + k * 3 + 1, none⟩ = some (.int .i64 f.type) := hcell 1 (by decide)
                have t0 : (0 : Int) ≤ k := by omega
                have t1 : (k : Int) < fn := by omega
                clear hcell hf
                subst ha
                have HI : Hid (Calls Try.prog 15 #[.slice a L c, .int .i64 f.type] wr fun r w' => r = .returned (.int .i64 (sz f.type)) ∧ Fr (fun _ => False) w w') := Lib.hid ((HSZ.out f.type wr HW.out).mono fun r w' hr => ⟨hr.1, HW.out.trans hr.2⟩)
                by_cases he : sz f.type = 0
                · have HX : Hid (V = 5) := Lib.hid (by have := HV4.out; rw [any_yes (P := noRS sz) (by have := HN.out; omega : k < fs.length) (by rw [HE.out]; unfold noRS; rw [he]; rfl)] at this; exact this)
                  rw [he] at HI
                  go_wp2_with (go_at_call 15; (with_reducible refine (HI.out).mono ?_); rintro r w1 ⟨rfl, hf1⟩; have HF1 := Lib.hid hf1; clear hf1)
                  go_ret
                  exact ⟨by rw [HX.out]; rfl, HF1.out⟩
                · have heb : (sz f.type == 0) = false := by rw [beq_eq_false_iff_ne]; exact he
                  have HNO : Hid (noRS sz f = false) := Lib.hid heb
                  generalize sz f.type = Z at *
                  go_wp2_with (go_at_call 15; (with_reducible refine (HI.out).mono ?_); rintro r w1 ⟨rfl, hf1⟩; have HF1 := Lib.hid hf1; clear hf1)
                  go_roundw
                  case rel => exact ⟨k + 1, by go_num, by omega, Lib.hid (nxt HA1.out (by rw [HE.out]; exact HNO.out)), HF1⟩
                  case measure => simp [intOf]; omega
              · obtain rfl : fn = k := by omega
                have HV5 : Hid (V = if dupB fs then 6 else 0) := Lib.hid (by have := HV4.out; rw [any_not (P := noRS sz) (by rw [← HN.out]; exact HA1.out)] at this; exact this)
                clear HA1 HV4 hlt hk
                go_wp2
                go_loopw [8] (fun q wl => ∃ k : Nat, q = .int .i64 k ∧ k ≤ fn ∧ Hid (∀ i, i < k → ∀ j, j < i → sameN (fs.getD j fld0) (fs.getD i fld0) = false) ∧ Hid (Fr (fun _ => False) w wl)) (fun q _ => fn - (intOf q).toNat)
                case atStart => exact ⟨0, rfl, Nat.zero_le _, Lib.hid fun j hj => by omega, HW⟩
                case round =>
                  obtain ⟨k, rfl, hk, HA1, HW⟩ := hrel
                  by_cases hlt : k < fn
                  · have t1 : (k : Int) < fn := by omega
                    go_wp2
                    go_loopw [9] (fun q wl => ∃ i : Nat, q = .int .i64 i ∧ i ≤ k ∧ Hid (∀ j, j < i → sameN (fs.getD j fld0) (fs.getD k fld0) = false) ∧ Hid (Fr (fun _ => False) w wl)) (fun q _ => k - (intOf q).toNat)
                    case atStart => exact ⟨0, rfl, Nat.zero_le _, Lib.hid fun j hj => by omega, HW⟩
                    case round =>
                      obtain ⟨i, rfl, hi, HA2, HW⟩ := hrel
                      by_cases hli : i < k
                      · obtain ⟨g, o, ha, hcell⟩ := (HC.out.quiet HW.out).2 i (by have := HN.out; omega)
                        obtain ⟨g', o', ha', hcell'⟩ := (HC.out.quiet HW.out).2 k (by have := HN.out; omega)
                        rw [ha] at ha'
                        injection ha' with ha'
                        injection ha' with e1 e2
                        subst e1 e2
                        have y0 : wr.cell? ⟨g, o + i * 3, none⟩ = some (.string (fs.getD i fld0).name) := hcell 0 (by decide)
                        have y1 : wr.cell? ⟨g, o + k * 3, none⟩ = some (.string (fs.getD k fld0).name) := hcell' 0 (by decide)
                        obtain ⟨f1, hf1⟩ : ∃ f, fs.getD i fld0 = f := ⟨_, rfl⟩
                        obtain ⟨f2, hf2⟩ : ∃ f, fs.getD k fld0 = f := ⟨_, rfl⟩
                        have HE1 := Lib.hid hf1
                        have HE2 := Lib.hid hf2
                        rw [hf1] at y0
                        rw [hf2] at y1
                        have t0 : (0 : Int) ≤ i := by omega
                        have t2 : (i : Int) < k := by omega
                        have t3 : (0 : Int) ≤ k := by omega
                        have t4 : (i : Int) < fn := by omega
                        clear hcell hcell' hf1 hf2
                        subst ha
                        by_cases he : (f1.name.toList == f2.name.toList) = true
                        · have HX : Hid (V = 6) := Lib.hid (by have := HV5.out; rw [dup_yes (i := k) (k := i) (by have := HN.out; omega) hli (by rw [HE1.out, HE2.out]; exact he)] at this; exact this)
                          go_wp2_with fail
                          go_quiet (fail)
                          go_wp2
                          go_ret
                          exact ⟨by rw [HX.out]; rfl, HW.out.drewN _⟩
                        · have heb : (f1.name.toList == f2.name.toList) = false := by simpa using he
                          have HNO : Hid (sameN f1 f2 = false) := Lib.hid heb
                          clear he
                          go_wp2_with fail
                          go_quiet (fail)
                          go_wp2
                          go_roundw
                          case rel => exact ⟨i + 1, by go_num, by omega, Lib.hid (nxt HA2.out (by rw [HE1.out, HE2.out]; exact HNO.out)), Lib.hid (HW.out.drewN _)⟩
                          case measure => simp [intOf]; omega
                      · obtain rfl : k = i := by omega
                        go_wp2
                        go_roundw
                        case rel => exact ⟨k + 1, by go_num, by omega, Lib.hid (nxt HA1.out HA2.out), HW⟩
                        case measure => simp [intOf]; omega
                  · obtain rfl : fn = k := by omega
                    have HX : Hid (V = 0) := Lib.hid (by have := HV5.out; rw [dup_not (by rw [← HN.out]; exact HA1.out)] at this; exact this)
                    go_wp2
                    go_ret
                    exact ⟨by rw [HX.out]; rfl, HW.out⟩
end Go.Proofs.Ytlhkhgkgjdfcgaa
