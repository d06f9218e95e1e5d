/-
  The document's own tables of types (layer 8): Size.
-/
import Derived.Test.YtlhkhgkgjdfcgaaQKindYa
import Derived.Test.YtlhkhgkgjdfcgaaQKindOa
import Derived.LoopTactic
import Derived.Deep.RegionHeld3
import Derived.Outline
namespace Go.Proofs.Ytlhkhgkgjdfcgaa
open Go.RowKit
set_option linter.unusedVariables false
set_option linter.unusedSimpArgs false
theorem alF_ge (al : Int → Int) (fs : List Fld) : ∀ k, k ≤ fs.length → 1 ≤ alF al fs k := by
  intro k
  induction k with
  | zero => intro _; exact Int.le_refl _
  | succ k ih =>
    intro hk
    rw [alF_succ al fs k _ (by omega) rfl]
    have := ih (by omega)
    unfold layA
    split <;> omega
theorem endF_up {sz al : Int → Int} {fs : List Fld} (hs : ∀ n, 0 ≤ sz n) (ha : ∀ f ∈ fs, 1 ≤ al f.type) {k : Nat} (hk : k < fs.length) {f : Fld} (hf : fs.getD k fld0 = f) : endF sz al fs k ≤ upI (endF sz al fs k) (al f.type) ∧ upI (endF sz al fs k) (al f.type) ≤ endF sz al fs (k + 1) := by
  have h1 : 1 ≤ al f.type := ha f (by rw [← hf]; exact getD_mem hk)
  rw [endF_succ sz al fs k f hk hf]
  have := hs f.type
  exact ⟨upI_ge h1, by omega⟩
theorem endF_ge {sz al : Int → Int} {fs : List Fld} (hs : ∀ n, 0 ≤ sz n) (ha : ∀ f ∈ fs, 1 ≤ al f.type) : ∀ k, k ≤ fs.length → 0 ≤ endF sz al fs k := by
  intro k
  induction k with
  | zero => intro _; exact Int.le_refl _
  | succ k ih =>
    intro hk
    obtain ⟨a, b⟩ := endF_up hs ha (by omega : k < fs.length) rfl
    have := ih (by omega)
    omega
theorem endF_le {sz al : Int → Int} {fs : List Fld} (hs : ∀ n, 0 ≤ sz n) (ha : ∀ f ∈ fs, 1 ≤ al f.type) : ∀ d k, k + d = fs.length → endF sz al fs k ≤ endF sz al fs fs.length := by
  intro d
  induction d with
  | zero => intro k hk; rw [← hk]; exact Int.le_refl _
  | succ d ih =>
    intro k hk
    obtain ⟨a, b⟩ := endF_up hs ha (by omega : k < fs.length) rfl
    have := ih (k + 1) (by omega)
    omega
theorem keepS2 {w0 w W : World} {g i : Nat} {x1 x2 : Value} (h1 : w.cell? ⟨g, i + 1, none⟩ = some x1) (h2 : w.cell? ⟨g, i + 2, none⟩ = some x2) (h : Fr (fun _ => False) w W) : Fr (fun _ => False) w W ∧ W.cell? ⟨g, i + 1, none⟩ = some x1 ∧ W.cell? ⟨g, i + 2, none⟩ = some x2 := ⟨h, h.cell h1 id, h.cell h2 id⟩
theorem keepS1 {w W : World} {g : Nat} {x1 : Value} (h1 : w.cell? ⟨g, 1, none⟩ = some x1) (h : Fr (fun _ => False) w W) : Fr (fun _ => False) w W ∧ W.cell? ⟨g, 1, none⟩ = some x1 := ⟨h, h.cell h1 id⟩
set_option maxRecDepth 100000 in
set_option maxHeartbeats 4000000 in
theorem rsize_step {rs : List RT} {F : Nat → List Fld} {sz al : Int → Int} {rk : Int → Nat} (D : Doc rs F sz al rk) (hfew : rs.length ≤ 1000) (n : Int)
    (IH : ∀ m, rk m < rk n → ∀ w a c, DocAt w a rs F → Calls Try.prog 15 #[.slice a rs.length c, .int .i64 m] w fun r w' => r = .returned (.int .i64 (sz m)) ∧ Fr (fun _ => False) w w')
    (w : World) (a : Option Addr) (c : Nat) (h : DocAt w a rs F) :
    Calls Try.prog 15 #[.slice a rs.length c, .int .i64 n] w fun r w' => r = .returned (.int .i64 (sz n)) ∧ Fr (fun _ => False) w w' := by
  have HIH := Lib.hid IH
  have HD := Lib.hid D
  have HH := Lib.hid h
  have HR := Lib.hid (Fr.refl (fun _ => False) w)
  have HI : Hid (∀ W, Calls Try.prog 24 #[.slice a rs.length c, .int .i64 n] W fun r w' => r = .returned (.bool (rin rs n)) ∧ W = w') := Lib.hid (fun W => is_of a rs.length c n W)
  have HAL : Hid (∀ m W, Fr (fun _ => False) w W → Calls Try.prog 17 #[.slice a rs.length c, .int .i64 m] W fun r w' => r = .returned (.int .i64 (al m)) ∧ W = w') := Lib.hid (fun m W hW => ralign_of D hfew (rk m) m (Nat.le_refl _) W a c (h.quiet hW))
  cases hin : rin rs n with
  | false =>
    rw [hin] at HI
    rw [(D.no n hin).1]
    clear D IH h hin
    go_enter Try.func15, Try.ntmps15
    go_wp2_with (go_at_call 24; (with_reducible refine (HI.out _).mono ?_); rintro r w1 ⟨rfl, rfl⟩)
    go_ret
    exact ⟨rfl, HR.out⟩
  | true =>
    rw [hin] at HI
    have hb : 0 ≤ n ∧ n < (rs.length : Int) := of_decide_eq_true hin
    obtain ⟨k, rfl⟩ : ∃ k : Nat, n = k := ⟨n.toNat, by omega⟩
    have hk : k < rs.length := by omega
    obtain ⟨g, rfl, hcell⟩ := h.1.2 k hk
    obtain ⟨hfl, hfl2⟩ := h.2 k hk
    have hz := D.zero k hin
    have ho := D.one k hin
    have ha := D.arr k hin
    have hs := D.str k hin
    have hel := D.els k hin
    have hbnd := D.bnd k
    have hrr : rAt rs (k : Int) = rs.getD k rt0 := rfl
    rw [hrr] at hz ho ha hs hel
    rw [show ((k : Int)).toNat = k from rfl] at hs
    obtain ⟨L, hL⟩ : ∃ L, rs.length = L := ⟨_, rfl⟩
    rw [hL] at hk hb hfew HI HIH HAL ⊢
    generalize rs.getD k rt0 = e at *
    have q0 : w.cell? ⟨g, k * 6, none⟩ = some (.int .i64 e.kind) := hcell 0 (by decide)
    have q1 : w.cell? ⟨g, k * 6 + 1, none⟩ = some (.int .i64 e.elem) := hcell 1 (by decide)
    have q2 : w.cell? ⟨g, k * 6 + 2, none⟩ = some (.int .i64 e.len) := hcell 2 (by decide)
    have q4 : w.cell? ⟨g, k * 6 + 4, none⟩ = some (.slice e.fa e.fn e.fc) := hcell 4 (by decide)
    have q5 : w.cell? ⟨g, k * 6 + 5, none⟩ = some (.bool e.opn) := hcell 5 (by decide)
    have t0 : (0 : Int) ≤ k := by omega
    have t1 : (k : Int) < L := by omega
    clear hcell hrr hin D IH h
    by_cases k0 : e.kind = 0
    · rw [(hz (.inl k0)).1]
      rw [k0] at q0
      clear hz ho ha hs hel
      go_enter Try.func15, Try.ntmps15
      go_wp2_with (go_at_call 24; (with_reducible refine (HI.out _).mono ?_); rintro r w1 ⟨rfl, rfl⟩)
      go_ret
      exact ⟨rfl, HR.out⟩
    · have k0b : (e.kind == 0) = false := by rw [beq_eq_false_iff_ne]; exact k0
      cases hop : e.opn with
      | true =>
        rw [(hz (.inr hop)).1]
        rw [hop] at q5
        clear hz ho ha hs hel k0
        go_enter Try.func15, Try.ntmps15
        go_wp2_with (go_at_call 24; (with_reducible refine (HI.out _).mono ?_); rintro r w1 ⟨rfl, rfl⟩)
        go_ret
        exact ⟨rfl, HR.out⟩
      | false =>
        rw [hop] at q5
        by_cases k2 : e.kind = 2
        · rw [(ho hop k2).1]
          rw [k2] at q0
          clear hz ho ha hs hel k0 k0b
          go_enter Try.func15, Try.ntmps15
          go_wp2_with (go_at_call 24; (with_reducible refine (HI.out _).mono ?_); rintro r w1 ⟨rfl, rfl⟩)
          go_ret
          exact ⟨rfl, HR.out⟩
        · have k2b : (e.kind == 2) = false := by rw [beq_eq_false_iff_ne]; exact k2
          by_cases k4 : e.kind = 4
          · obtain ⟨e2, _, e3⟩ := ha hop k4
            rw [e2] at hbnd ⊢
            rw [k4] at q0
            have HEL : Hid (∀ W, Fr (fun _ => False) w W → Calls Try.prog 15 #[.slice (some ⟨g, 0, none⟩) L c, .int .i64 e.elem] W fun r w' => r = .returned (.int .i64 (sz e.elem)) ∧ Fr (fun _ => False) w w') := Lib.hid (fun W hW => (HIH.out e.elem e3 W (some ⟨g, 0, none⟩) c (HH.out.quiet hW)).mono fun r w' hr => ⟨hr.1, hW.trans hr.2⟩)
            generalize sz e.elem = B at *
            obtain ⟨p0, p1, _⟩ := hbnd
            have hw : IntKind.i64.wrap (e.len * B) = e.len * B := by rw [IntKind.wrap_i64]; omega
            clear hz ho ha hs hel k0 k0b k2 k2b e2 e3
            go_enter Try.func15, Try.ntmps15
            go_wp2_with (go_at_call 24; (with_reducible refine (HI.out _).mono ?_); rintro r w1 ⟨rfl, rfl⟩)
            go_region_held3 (fun w' => Fr (fun _ => False) w w' ∧ w'.cell? ⟨g, k * 6 + 1, none⟩ = some (.int .i64 e.elem) ∧ w'.cell? ⟨g, k * 6 + 2, none⟩ = some (.int .i64 e.len))
              (first | exact keepS2 (w0 := w) q1 q2 (fr_drew (Fr.refl _ _)) | assumption | exact keepS2 (w0 := w) q1 q2 (by assumption))
              (first
                | (go_at_call 15; refine (HEL.out _ (fr_drew (Fr.refl _ _))).mono ?_; rintro r w2 ⟨rfl, hf2⟩))
            all_goals
              have HF2 := Lib.hid hf2
              go_wp2
              go_ret
              exact ⟨by first | rfl | (rw [hw]; rfl) | simp [hw], HF2.out⟩
          · have k4b : (e.kind == 4) = false := by rw [beq_eq_false_iff_ne]; exact k4
            by_cases k5 : e.kind = 5
            · obtain ⟨ea, e2, e3⟩ := hs hop k5
              have hn := hfl.1
              have hfn : e.fn ≤ 1000 := by omega
              have hs0 : ∀ m, 0 ≤ sz m := fun m => (HD.out.bnd m).1
              have hal1 : ∀ f ∈ F k, 1 ≤ al f.type := fun f hf => (e3 f hf).2
              have hge := endF_ge hs0 hal1
              have hle := endF_le hs0 hal1
              have hA1 : 1 ≤ al (k : Int) := by rw [ea]; exact alF_ge al (F k) _ (Nat.le_refl _)
              have hA4 := hbnd.2.2.2
              have hlast : endF sz al (F k) (F k).length ≤ 1000000000 := by have := upI_ge (n := endF sz al (F k) (F k).length) hA1; omega
              rw [e2]
              rw [k5] at q0
              have HFS : Hid (∀ f ∈ F k, ∀ W, Fr (fun _ => False) w W → Calls Try.prog 15 #[.slice (some ⟨g, 0, none⟩) L c, .int .i64 f.type] W fun r w' => r = .returned (.int .i64 (sz f.type)) ∧ Fr (fun _ => False) w w') := Lib.hid (fun f hf W hW => (HIH.out f.type (e3 f hf).1 W (some ⟨g, 0, none⟩) c (HH.out.quiet hW)).mono fun r w' hr => ⟨hr.1, hW.trans hr.2⟩)
              have HUP := Lib.hid (fun (i : Nat) (hi : i < (F k).length) (f : Fld) (hf : (F k).getD i fld0 = f) => And.intro (endF_up hs0 hal1 hi hf) (And.intro (hge i (by omega)) (And.intro (hle ((F k).length - (i + 1)) (i + 1) (by omega)) (And.intro (hal1 f (by rw [← hf]; exact getD_mem hi)) ((HD.out.bnd f.type).2.2.2)))))
              have HEND := Lib.hid (hge (F k).length (Nat.le_refl _))
              have HRK := Lib.hid (fun (f : Fld) (hf : f ∈ F k) => (e3 f hf).1)
              have HFL := Lib.hid hfl
              have HLAST := Lib.hid hlast
              clear hz ho ha hs hel k0 k0b k2 k2b k4 k4b e2 e3 ea hs0 hal1 hge hle hbnd hfl
              rw [← hn] at hlast HEND HLAST ⊢
              go_enter Try.func15, Try.ntmps15
              go_wp2_with (go_at_call 24; (with_reducible refine (HI.out _).mono ?_); rintro r w1 ⟨rfl, rfl⟩)
              go_loopw [5, 6] (fun m q wl => ∃ i : Nat, q = .int .i64 i ∧ i ≤ e.fn ∧ m = .int .i64 (endF sz al (F k) i) ∧ Hid (Fr (fun _ => False) w wl)) (fun _ q _ => e.fn - (intOf q).toNat)
              case atStart => exact ⟨0, rfl, Nat.zero_le _, rfl, HR⟩
              case round =>
                obtain ⟨i, rfl, hi, rfl, HW⟩ := hrel
                have q4r := HW.out.cell q4 id
                by_cases hli : i < e.fn
                · obtain ⟨g2, o2, ha2, hc2⟩ := (HFL.out.quiet HW.out).2 i (by omega)
                  obtain ⟨f, hf⟩ : ∃ f, (F k).getD i fld0 = f := ⟨_, rfl⟩
                  rw [hf] at hc2
                  have HNX := Lib.hid (endF_succ sz al (F k) i f (by omega) hf)
                  obtain ⟨⟨u1, u2⟩, u3, u4, u5, u6⟩ := HUP.out i (by omega) f hf
                  rw [← hn] at u4
                  have hmem : f ∈ F k := by rw [← hf]; exact getD_mem (by omega)
                  obtain ⟨wB, hwB⟩ : ∃ wB, wr.alloc (.cells #[.string f.name, .int .i64 f.type, .int .i64 f.off] 57) = wB := ⟨_, rfl⟩
                  have hfB : Fr (fun _ => False) wr wB := by rw [← hwB]; exact fr_al (Fr.refl _ _) _
                  have z1 : wB.cell? ⟨wr.heap.size, 1, none⟩ = some (.int .i64 f.type) := by rw [← hwB]; exact fcell wr _ _ 1 _ rfl
                  have hwr : Fr (fun _ => False) w wB := HW.out.trans hfB
                  obtain ⟨E, hE⟩ : ∃ E, endF sz al (F k) i = E := ⟨_, rfl⟩
                  obtain ⟨B, hB⟩ : ∃ B, al f.type = B := ⟨_, rfl⟩
                  obtain ⟨Z, hZ⟩ : ∃ Z, sz f.type = Z := ⟨_, rfl⟩
                  rw [hE, hB] at u1
                  rw [hE, hB, HNX.out, hE, hB, hZ] at u2
                  rw [HNX.out, hE, hB, hZ] at u4
                  rw [hE] at u3
                  rw [hB] at u5 u6
                  rw [hE, hB, hZ] at HNX
                  have HALB : Hid (∀ W, Fr (fun _ => False) wB W → Calls Try.prog 17 #[.slice (some ⟨g, 0, none⟩) L c, .int .i64 f.type] W fun r w' => r = .returned (.int .i64 B) ∧ W = w') := Lib.hid (fun W hW => by rw [← hB]; exact HAL.out f.type W (hwr.trans hW))
                  have HSZB : Hid (∀ W, Fr (fun _ => False) wB W → Calls Try.prog 15 #[.slice (some ⟨g, 0, none⟩) L c, .int .i64 f.type] W fun r w' => r = .returned (.int .i64 Z) ∧ Fr (fun _ => False) wB w') := Lib.hid (fun W hW => by
                    rw [← hZ]
                    have hst := HIH.out f.type (HRK.out f hmem) W (some ⟨g, 0, none⟩) c (HH.out.quiet (hwr.trans hW))
                    exact hst.mono fun r w' hr => ⟨hr.1, hW.trans hr.2⟩)
                  have HNXT : Hid (∀ W, Calls Try.prog 35 #[.int .i64 E, .int .i64 B] W fun r w' => r = .returned (.int .i64 (upI E B)) ∧ W = w') := Lib.hid (fun W => next_of E B ⟨u3, by omega⟩ ⟨u5, by omega⟩ W)
                  have HWB := Lib.hid hwr
                  rw [ha2] at q4r
                  have y0 : wr.cell? ⟨g2, o2 + i * 3, none⟩ = some (.string f.name) := hc2 0 (by decide)
                  have y1 : wr.cell? ⟨g2, o2 + i * 3 + 1, none⟩ = some (.int .i64 f.type) := hc2 1 (by decide)
                  have y2 : wr.cell? ⟨g2, o2 + i * 3 + 2, none⟩ = some (.int .i64 f.off) := hc2 2 (by decide)
                  have t2 : (0 : Int) ≤ i := by omega
                  have t3 : (i : Int) < e.fn := by omega
                  obtain ⟨U, hU⟩ : ∃ U, upI E B = U := ⟨_, rfl⟩
                  rw [hU] at u1 u2 u4 HNX HNXT
                  rw [hE]
                  clear hc2 hf hfB hwr hB hZ hE hU hmem
                  go_wp2
                  try rw [hwB]
                  clear hwB
                  go_region_held3 (fun w' => Fr (fun _ => False) wB w' ∧ w'.cell? ⟨wr.heap.size, 1, none⟩ = some (.int .i64 f.type))
                    (first | exact keepS1 z1 (fr_drew (Fr.refl _ _)) | assumption | exact keepS1 z1 (by assumption))
                    (first
                      | (go_at_call 17; refine (HALB.out _ (by first | exact fr_drew (Fr.refl _ _) | assumption)).mono ?_; rintro r w2 ⟨rfl, rfl⟩)
                      | (go_at_call 35; refine (HNXT.out _).mono ?_; rintro r w3 ⟨rfl, rfl⟩)
                      | (go_at_call 15; refine (HSZB.out _ (by first | exact fr_drew (Fr.refl _ _) | assumption)).mono ?_; rintro r w4 ⟨rfl, hf4⟩))
                  all_goals
                    have hS := ‹Fr (fun _ => False) wB _ ∧ _›
                    have HS := Lib.hid hS.1
                    clear hS z1 q4r
                    go_wp2
                    go_roundw
                    case rel => exact ⟨i + 1, by go_num, by omega, (by rw [HNX.out]; congr 1; first | rfl | (rw [IntKind.wrap_i64]; omega)), Lib.hid (HWB.out.trans HS.out)⟩
                    case measure => simp [intOf]; omega
                · obtain rfl : e.fn = i := by omega
                  clear hn
                  have HALN := Lib.hid (HAL.out k wr HW.out)
                  have HNXT := Lib.hid (next_of (endF sz al (F k) e.fn) (al k) ⟨HEND.out, HLAST.out⟩ ⟨hA1, by omega⟩ wr)
                  go_wp2_with (first
                    | (go_at_call 17; (with_reducible refine (HALN.out).mono ?_); rintro r w2 ⟨rfl, rfl⟩)
                    | (go_at_call 35; (with_reducible refine (HNXT.out).mono ?_); rintro r w3 ⟨rfl, rfl⟩))
                  go_ret
                  exact ⟨rfl, HW.out⟩
            · have k5b : (e.kind == 5) = false := by rw [beq_eq_false_iff_ne]; exact k5
              rw [(hel hop k0 k2 k4 k5).1]
              clear hz ho ha hs hel k0 k2 k4 k5
              go_enter Try.func15, Try.ntmps15
              go_wp2_with (go_at_call 24; (with_reducible refine (HI.out _).mono ?_); rintro r w1 ⟨rfl, rfl⟩)
              go_ret
              exact ⟨rfl, HR.out⟩
theorem rsize_of {rs : List RT} {F : Nat → List Fld} {sz al : Int → Int} {rk : Int → Nat} (D : Doc rs F sz al rk) (hfew : rs.length ≤ 1000) :
    ∀ (N : Nat) (n : Int), rk n ≤ N → ∀ w a c, DocAt w a rs F → Calls Try.prog 15 #[.slice a rs.length c, .int .i64 n] w fun r w' => r = .returned (.int .i64 (sz n)) ∧ Fr (fun _ => False) w w' := by
  intro N
  induction N with
  | zero => intro n hn w a c h; exact rsize_step D hfew n (fun m hm => by omega) w a c h
  | succ N ih => intro n hn w a c h; exact rsize_step D hfew n (fun m hm => ih m (by omega)) w a c h
end Go.Proofs.Ytlhkhgkgjdfcgaa
