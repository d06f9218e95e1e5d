/-
  The document's own tables of types (layer 8): what sizes and alignments are; Align.
-/
import Derived.Test.YtlhkhgkgjdfcgaaQKindXa
import Derived.LoopTactic
import Derived.Outline
namespace Go.Proofs.Ytlhkhgkgjdfcgaa
open Go.RowKit
set_option linter.unusedVariables false
set_option linter.unusedSimpArgs false
def rAt (rs : List RT) (n : Int) : RT := rs.getD n.toNat rt0
/-- The greatest alignment of the first k fields, at least 1. -/
def alF (al : Int → Int) (fs : List Fld) (k : Nat) : Int := (fs.take k).foldl (fun m f => layA m (al f.type)) 1
/-- Where the first k fields end. -/
def endF (sz al : Int → Int) (fs : List Fld) (k : Nat) : Int := (fs.take k).foldl (fun e f => upI e (al f.type) + sz f.type) 0
theorem alF_succ (al : Int → Int) (fs : List Fld) (k : Nat) (f : Fld) (hk : k < fs.length) (hf : fs.getD k fld0 = f) : alF al fs (k + 1) = layA (alF al fs k) (al f.type) := by
  have e : fs[k] = f := by rw [← hf, List.getD_eq_getElem?_getD, List.getElem?_eq_getElem hk]; rfl
  unfold alF
  rw [List.take_add_one, List.getElem?_eq_getElem hk, List.foldl_append, e]
  rfl
theorem endF_succ (sz al : Int → Int) (fs : List Fld) (k : Nat) (f : Fld) (hk : k < fs.length) (hf : fs.getD k fld0 = f) : endF sz al fs (k + 1) = upI (endF sz al fs k) (al f.type) + sz f.type := by
  have e : fs[k] = f := by rw [← hf, List.getD_eq_getElem?_getD, List.getElem?_eq_getElem hk]; rfl
  unfold endF
  rw [List.take_add_one, List.getElem?_eq_getElem hk, List.foldl_append, e]
  rfl
/-- The sizes and alignments of the document's types, by its own words; each type's come out of those of types of a lower rank. -/
structure Doc (rs : List RT) (F : Nat → List Fld) (sz al : Int → Int) (rk : Int → Nat) : Prop where
  no : ∀ n, rin rs n = false → sz n = 0 ∧ al n = 0
  zero : ∀ n, rin rs n = true → (rAt rs n).kind = 0 ∨ (rAt rs n).opn = true → sz n = 0 ∧ al n = 0
  one : ∀ n, rin rs n = true → (rAt rs n).opn = false → (rAt rs n).kind = 2 → sz n = 1 ∧ al n = 1
  arr : ∀ n, rin rs n = true → (rAt rs n).opn = false → (rAt rs n).kind = 4 → sz n = (rAt rs n).len * sz (rAt rs n).elem ∧ al n = al (rAt rs n).elem ∧ rk (rAt rs n).elem < rk n
  str : ∀ n, rin rs n = true → (rAt rs n).opn = false → (rAt rs n).kind = 5 → al n = alF al (F n.toNat) (F n.toNat).length ∧ sz n = upI (endF sz al (F n.toNat) (F n.toNat).length) (al n) ∧ ∀ f ∈ F n.toNat, rk f.type < rk n ∧ 1 ≤ al f.type
  els : ∀ n, rin rs n = true → (rAt rs n).opn = false → (rAt rs n).kind ≠ 0 → (rAt rs n).kind ≠ 2 → (rAt rs n).kind ≠ 4 → (rAt rs n).kind ≠ 5 → sz n = 4 ∧ al n = 4
  bnd : ∀ n, 0 ≤ sz n ∧ sz n ≤ 1000000000 ∧ 0 ≤ al n ∧ al n ≤ 4
/-- The document's types in memory, with their fields. -/
def DocAt (w : World) (a : Option Addr) (rs : List RT) (F : Nat → List Fld) : Prop := RAt w a rs.length rs ∧ ∀ k, k < rs.length → FldAt w (rs.getD k rt0).fa (rs.getD k rt0).fn (F k) ∧ (F k).length ≤ 1000
theorem DocAt.quiet {w w' : World} {a : Option Addr} {rs : List RT} {F : Nat → List Fld} (h : DocAt w a rs F) (hf : Fr (fun _ => False) w w') : DocAt w' a rs F := ⟨h.1.quiet hf, fun k hk => ⟨(h.2 k hk).1.quiet hf, (h.2 k hk).2⟩⟩
set_option maxRecDepth 100000 in
set_option maxHeartbeats 2000000 in
theorem ralign_step {rs : List RT} {F : Nat → List Fld} {sz al : Int → Int} {rk : Int → Nat} (D : Doc rs F sz al rk) (hfew : rs.length ≤ 1000) (n : Int)
    (IH : ∀ m, rk m < rk n → ∀ w a c, DocAt w a rs F → Calls Try.prog 17 #[.slice a rs.length c, .int .i64 m] w fun r w' => r = .returned (.int .i64 (al m)) ∧ w = w')
    (w : World) (a : Option Addr) (c : Nat) (h : DocAt w a rs F) :
    Calls Try.prog 17 #[.slice a rs.length c, .int .i64 n] w fun r w' => r = .returned (.int .i64 (al n)) ∧ w = w' := by
  have HIH := Lib.hid IH
  have HD := Lib.hid D
  have HH := Lib.hid h
  have HI : Hid (∀ W, Calls Try.prog 24 #[.slice a rs.length c, .int .i64 n] W fun r w' => r = .returned (.bool (rin rs n)) ∧ W = w') := Lib.hid (fun W => is_of a rs.length c n W)
  cases hin : rin rs n with
  | false =>
    rw [hin] at HI
    rw [(D.no n hin).2]
    clear D IH h hin
    go_enter Try.func17, Try.ntmps17
    go_wp2_with (go_at_call 24; (with_reducible refine (HI.out _).mono ?_); rintro r w1 ⟨rfl, rfl⟩)
    go_ret
    exact ⟨rfl, rfl⟩
  | true =>
    rw [hin] at HI
    have hb : 0 ≤ n ∧ n < (rs.length : Int) := of_decide_eq_true hin
    obtain ⟨k, rfl⟩ : ∃ k : Nat, n = k := ⟨n.toNat, by omega⟩
    have hk : k < rs.length := by omega
    obtain ⟨g, rfl, hcell⟩ := h.1.2 k hk
    obtain ⟨hfl, hfl2⟩ := h.2 k hk
    have hz := D.zero k hin
    have ho := D.one k hin
    have ha := D.arr k hin
    have hs := D.str k hin
    have hel := D.els k hin
    have hrr : rAt rs (k : Int) = rs.getD k rt0 := rfl
    rw [hrr] at hz ho ha hs hel
    rw [show ((k : Int)).toNat = k from rfl] at hs
    obtain ⟨L, hL⟩ : ∃ L, rs.length = L := ⟨_, rfl⟩
    rw [hL] at hk hb hfew HI HIH ⊢
    generalize rs.getD k rt0 = e at *
    have q0 : w.cell? ⟨g, k * 6, none⟩ = some (.int .i64 e.kind) := hcell 0 (by decide)
    have q1 : w.cell? ⟨g, k * 6 + 1, none⟩ = some (.int .i64 e.elem) := hcell 1 (by decide)
    have q4 : w.cell? ⟨g, k * 6 + 4, none⟩ = some (.slice e.fa e.fn e.fc) := hcell 4 (by decide)
    have q5 : w.cell? ⟨g, k * 6 + 5, none⟩ = some (.bool e.opn) := hcell 5 (by decide)
    have t0 : (0 : Int) ≤ k := by omega
    have t1 : (k : Int) < L := by omega
    clear hcell hrr hin D IH h
    by_cases k0 : e.kind = 0
    · rw [(hz (.inl k0)).2]
      rw [k0] at q0
      clear hz ho ha hs hel
      go_enter Try.func17, Try.ntmps17
      go_wp2_with (go_at_call 24; (with_reducible refine (HI.out _).mono ?_); rintro r w1 ⟨rfl, rfl⟩)
      go_ret
      exact ⟨rfl, rfl⟩
    · have k0b : (e.kind == 0) = false := by rw [beq_eq_false_iff_ne]; exact k0
      cases hop : e.opn with
      | true =>
        rw [(hz (.inr hop)).2]
        rw [hop] at q5
        clear hz ho ha hs hel k0
        go_enter Try.func17, Try.ntmps17
        go_wp2_with (go_at_call 24; (with_reducible refine (HI.out _).mono ?_); rintro r w1 ⟨rfl, rfl⟩)
        go_ret
        exact ⟨rfl, rfl⟩
      | false =>
        rw [hop] at q5
        by_cases k2 : e.kind = 2
        · rw [(ho hop k2).2]
          rw [k2] at q0
          clear hz ho ha hs hel k0 k0b
          go_enter Try.func17, Try.ntmps17
          go_wp2_with (go_at_call 24; (with_reducible refine (HI.out _).mono ?_); rintro r w1 ⟨rfl, rfl⟩)
          go_ret
          exact ⟨rfl, rfl⟩
        · have k2b : (e.kind == 2) = false := by rw [beq_eq_false_iff_ne]; exact k2
          by_cases k4 : e.kind = 4
          · obtain ⟨_, e2, e3⟩ := ha hop k4
            rw [e2]
            rw [k4] at q0
            have HEL := Lib.hid (HIH.out e.elem e3 w (some ⟨g, 0, none⟩) c HH.out)
            generalize al e.elem = B at *
            clear hz ho ha hs hel k0 k0b k2 k2b e2 e3
            go_enter Try.func17, Try.ntmps17
            go_wp2_with (first
              | (go_at_call 24; (with_reducible refine (HI.out _).mono ?_); rintro r w1 ⟨rfl, rfl⟩)
              | (go_at_call 17; (with_reducible refine (HEL.out).mono ?_); rintro r w1 ⟨rfl, rfl⟩))
            go_ret
            exact ⟨rfl, rfl⟩
          · have k4b : (e.kind == 4) = false := by rw [beq_eq_false_iff_ne]; exact k4
            by_cases k5 : e.kind = 5
            · obtain ⟨e2, _, e3⟩ := hs hop k5
              have hn := hfl.1
              have hfn : e.fn ≤ 1000 := by omega
              rw [e2]
              rw [k5] at q0
              have HFS := Lib.hid (show ∀ f ∈ F k, Calls Try.prog 17 #[.slice (some ⟨g, 0, none⟩) L c, .int .i64 f.type] w fun r w' => r = .returned (.int .i64 (al f.type)) ∧ w = w' from fun f hf => HIH.out f.type (e3 f hf).1 w (some ⟨g, 0, none⟩) c HH.out)
              rw [← hn]
              clear hz ho ha hs hel k0 k0b k2 k2b k4 k4b e2 e3
              go_enter Try.func17, Try.ntmps17
              go_wp2_with (go_at_call 24; (with_reducible refine (HI.out _).mono ?_); rintro r w1 ⟨rfl, rfl⟩)
              go_loopw [5, 6] (fun m q wl => ∃ i : Nat, q = .int .i64 i ∧ i ≤ e.fn ∧ m = .int .i64 (alF al (F k) i) ∧ wl = w) (fun _ q _ => e.fn - (intOf q).toNat)
              case atStart => exact ⟨0, rfl, Nat.zero_le _, rfl, rfl⟩
              case round =>
                obtain ⟨i, rfl, hi, rfl, rfl⟩ := hrel
                by_cases hli : i < e.fn
                · obtain ⟨g2, o2, ha2, hc2⟩ := hfl.2 i (by omega)
                  obtain ⟨f, hf⟩ : ∃ f, (F k).getD i fld0 = f := ⟨_, rfl⟩
                  rw [hf] at hc2
                  have HNX := Lib.hid (alF_succ al (F k) i f (by omega) hf)
                  have HFF := Lib.hid (HFS.out f (by rw [← hf]; exact getD_mem (by omega)))
                  rw [ha2] at q4
                  have y1 : wr.cell? ⟨g2, o2 + i * 3 + 1, none⟩ = some (.int .i64 f.type) := hc2 1 (by decide)
                  have t2 : (0 : Int) ≤ i := by omega
                  have t3 : (i : Int) < e.fn := by omega
                  generalize alF al (F k) i = M at *
                  generalize al f.type = B at *
                  clear hc2 hf
                  go_wp2_with (go_at_call 17; (with_reducible refine (HFF.out).mono ?_); rintro r w1 ⟨rfl, rfl⟩)
                  go_roundw
                  case rel => exact ⟨i + 1, by go_num, by omega, by rw [HNX.out]; rfl, by first | rfl | trivial⟩
                  case measure => simp [intOf]; omega
                · obtain rfl : e.fn = i := by omega
                  go_wp2
                  go_ret
                  exact ⟨rfl, rfl⟩
            · have k5b : (e.kind == 5) = false := by rw [beq_eq_false_iff_ne]; exact k5
              rw [(hel hop k0 k2 k4 k5).2]
              clear hz ho ha hs hel k0 k2 k4 k5
              go_enter Try.func17, Try.ntmps17
              go_wp2_with (go_at_call 24; (with_reducible refine (HI.out _).mono ?_); rintro r w1 ⟨rfl, rfl⟩)
              go_ret
              exact ⟨rfl, rfl⟩
theorem ralign_of {rs : List RT} {F : Nat → List Fld} {sz al : Int → Int} {rk : Int → Nat} (D : Doc rs F sz al rk) (hfew : rs.length ≤ 1000) :
    ∀ (N : Nat) (n : Int), rk n ≤ N → ∀ w a c, DocAt w a rs F → Calls Try.prog 17 #[.slice a rs.length c, .int .i64 n] w fun r w' => r = .returned (.int .i64 (al n)) ∧ w = w' := by
  intro N
  induction N with
  | zero => intro n hn w a c h; exact ralign_step D hfew n (fun m hm => by omega) w a c h
  | succ N ih => intro n hn w a c h; exact ralign_step D hfew n (fun m hm => ih m (by omega)) w a c h
end Go.Proofs.Ytlhkhgkgjdfcgaa
