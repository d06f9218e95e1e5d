/-
  Modules (layer 13): the arguments of a call, and whether what it calls gives nothing.
-/
import Derived.Test.YthdkmjbeemfbbaaQChkB
import Derived.Test.YthdkmjbeemfbbaaQChkL
namespace Go.Proofs.Ythdkmjbeemfbbaa
open Go.RowKit
set_option linter.unusedVariables false
set_option linter.unusedSimpArgs false
theorem bool_ex (P : Prop) : ∃ b : Bool, (b = true ↔ P) := by
  by_cases q : P
  · exact ⟨true, iff_of_true rfl q⟩
  · exact ⟨false, iff_of_false Bool.false_ne_true q⟩
set_option maxRecDepth 100000 in
set_option maxHeartbeats 4000000 in
theorem ask_reg (ga pa oa : Option Addr) (nG nP nO gc pc oc : Nat) (vd0 mn nm vd pr bl : Value) (R : Int) (r : Int) (b : Bool) (h : b = true ↔ ¬RgP R r) (vb : Nat) (w : World) (hv : Rqw w vb #[.slice ga nG gc, vd0, .slice pa nP pc, mn, nm, vd, pr, .int .i64 R, .slice oa nO oc, bl]) : Calls Try.prog 73 #[.int .i64 r, .pointer (some ⟨vb, 0, none⟩)] w fun e w' => e = .returned (.bool b) ∧ Fr (fun _ => False) w w' := by
  have KI := Lib.hid (fun W => (is_register (.slice ga nG gc) vd0 (.slice pa nP pc) mn nm vd pr (.slice oa nO oc) bl R r W).mono (fun e w' q => (⟨by rw [q.1]; congr 2; exact bool_of (P := RgP R r) (by simp [RgP]) (by cases b <;> simp_all), q.2⟩ : e = .returned (.bool !b) ∧ Fr (fun _ => False) W w')))
  have v0 : w.cell? ⟨vb, 0, none⟩ = some (.slice ga nG gc) := hv 0 _ rfl
  have v1 : w.cell? ⟨vb, 1, none⟩ = some (vd0) := hv 1 _ rfl
  have v2 : w.cell? ⟨vb, 2, none⟩ = some (.slice pa nP pc) := hv 2 _ rfl
  have v3 : w.cell? ⟨vb, 3, none⟩ = some (mn) := hv 3 _ rfl
  have v4 : w.cell? ⟨vb, 4, none⟩ = some (nm) := hv 4 _ rfl
  have v5 : w.cell? ⟨vb, 5, none⟩ = some (vd) := hv 5 _ rfl
  have v6 : w.cell? ⟨vb, 6, none⟩ = some (pr) := hv 6 _ rfl
  have v7 : w.cell? ⟨vb, 7, none⟩ = some (.int .i64 R) := hv 7 _ rfl
  have v8 : w.cell? ⟨vb, 8, none⟩ = some (.slice oa nO oc) := hv 8 _ rfl
  have v9 : w.cell? ⟨vb, 9, none⟩ = some (bl) := hv 9 _ rfl
  clear hv h
  go_enter Try.func73, Try.ntmps73
  go_wp2_with (go_at_call 71; (with_reducible refine (KI.out _).mono ?_); rintro e w2 ⟨rfl, hf⟩; have HF := Lib.hid hf; clear hf)
  go_ret
  exact ⟨by simp, HF.out⟩
set_option maxRecDepth 100000 in
set_option maxHeartbeats 4000000 in
theorem idx_reg (ga pa oa : Option Addr) (nG nP nO gc pc oc : Nat) (vd0 mn nm vd pr bl : Value) (R : Int) (l : List Int) (a : Option Addr) (n c : Nat) (hn : n = l.length) (hb : n ≤ 9223372036854775807) (vb : Nat) (w : World) (h : IntsAt w a l) (hv : Rqw w vb #[.slice ga nG gc, vd0, .slice pa nP pc, mn, nm, vd, pr, .int .i64 R, .slice oa nO oc, bl]) : Calls Try.prog 74 #[.slice a n c, .func (.func 73) #[] #[.pointer (some ⟨vb, 0, none⟩)]] w fun e w' => AskR (¬ArgP R l) e ∧ Fr (fun _ => False) w w' := by
  have HN := Lib.hid hn
  have HI := Lib.hid h
  have HV := Lib.hid hv
  clear hn h hv
  go_enter Try.func74, Try.ntmps74
  go_wp2
  go_loopw [8] (fun q wr => ∃ k : Nat, q = .int .i64 k ∧ k ≤ n ∧ Hid (Fr (fun _ => False) w wr) ∧ Hid (∀ j, j < k → RgP R (l.getD j 0))) (fun q _ => n - (intOf q).toNat)
  case atStart => exact ⟨0, rfl, Nat.zero_le _, Lib.hid (Fr.refl _ _), Lib.hid (fun j hj => absurd hj (by omega))⟩
  case round =>
    obtain ⟨k, rfl, hk, HW, HK⟩ := hrel
    by_cases hlt : k < n
    · obtain ⟨g, o, rfl, C⟩ := (HI.out.fr HW.out) k (by rw [← HN.out]; exact hlt)
      obtain ⟨x, hx⟩ : ∃ x, l.getD k 0 = x := ⟨_, rfl⟩
      rw [hx] at C
      have HX := Lib.hid hx
      clear hx
      have HVR := Lib.hid (HV.out.fr HW.out)
      by_cases e : RgP R x
      · have KA := Lib.hid (ask_reg ga pa oa nG nP nO gc pc oc vd0 mn nm vd pr bl R x false (iff_of_false Bool.false_ne_true (fun hn => hn e)) vb wr HVR.out)
        have HK2 : Hid (∀ j, j < k + 1 → RgP R (l.getD j 0)) := Lib.hid (fun j hj => by
          by_cases hjk : j < k
          · exact HK.out j hjk
          · obtain rfl : j = k := by omega
            rw [HX.out]; exact e)
        clear e
        go_wp2_with (go_at_call 73; (with_reducible refine KA.out.mono ?_); rintro e w2 ⟨rfl, hf⟩; have HF := Lib.hid (HW.out.trans hf); clear hf)
        go_roundw
        case rel => exact ⟨k + 1, by go_num, by omega, HF, HK2⟩
        case measure => simp [intOf]; omega
      · have KA := Lib.hid (ask_reg ga pa oa nG nP nO gc pc oc vd0 mn nm vd pr bl R x true (by simp only [true_iff]; exact e) vb wr HVR.out)
        have HE := Lib.hid e
        clear e
        go_wp2_with (go_at_call 73; (with_reducible refine KA.out.mono ?_); rintro e w2 ⟨rfl, hf⟩; have HF := Lib.hid (HW.out.trans hf); clear hf)
        go_ret
        exact ⟨⟨_, rfl, iff_of_true (by omega) (fun hh => HE.out (by have := hh k (by rw [← HN.out]; exact hlt); rw [HX.out] at this; exact this))⟩, HF.out⟩
    · obtain rfl : k = n := by omega
      go_wp2
      go_ret
      exact ⟨⟨_, rfl, iff_of_false (by decide) (fun hh => hh (by unfold ArgP; rw [← HN.out]; exact HK.out))⟩, HW.out⟩
theorem has_reg (ga pa oa : Option Addr) (nG nP nO gc pc oc : Nat) (vd0 mn nm vd pr bl : Value) (R : Int) (l : List Int) (a : Option Addr) (n c : Nat) (hn : n = l.length) (hb : n ≤ 9223372036854775807) (vb : Nat) (w : World) (h : IntsAt w a l) (hv : Rqw w vb #[.slice ga nG gc, vd0, .slice pa nP pc, mn, nm, vd, pr, .int .i64 R, .slice oa nO oc, bl]) : Calls Try.prog 72 #[.slice a n c, .func (.func 73) #[] #[.pointer (some ⟨vb, 0, none⟩)]] w fun e w' => IsR (¬ArgP R l) e ∧ Fr (fun _ => False) w w' := by
  have HC := Lib.hid (idx_reg ga pa oa nG nP nO gc pc oc vd0 mn nm vd pr bl R l a n c hn hb vb w h hv)
  clear h hv hn
  go_enter Try.func72, Try.ntmps72
  go_wp2_with (go_at_call 74; (with_reducible refine HC.out.mono ?_); rintro e w2 ⟨⟨x, rfl, hx⟩, hf⟩; have HX := Lib.hid hx; have HF := Lib.hid hf; clear hx hf)
  go_ret
  exact ⟨⟨_, rfl, by rw [decide_eq_true_iff]; exact HX.out⟩, HF.out⟩
set_option maxRecDepth 100000 in
set_option maxHeartbeats 4000000 in
theorem void_call (ga pa oa : Option Addr) (nG nP nO gc pc oc : Nat) (vd0 mn nm vd pr bl : Value) (R : Int) (cv : Bool) (D A B fn ob of sz u : Int) (aa : Option Addr) (na ac : Nat) (lg : Bool) (g o k : Nat) (hk : ob = (k : Int)) (hkn : k < nP) (hpa : pa = some ⟨g, o, none⟩) (w : World) (hc : w.cell? ⟨g, o + k * 6 + 1, none⟩ = some (.bool cv)) : Calls Try.prog 62 #[.agg #[.slice ga nG gc, vd0, .slice pa nP pc, mn, nm, vd, pr, .int .i64 R, .slice oa nO oc, bl], .agg #[.int .i64 9, .int .i64 D, .int .i64 A, .int .i64 B, .int .i64 fn, .int .i64 ob, .int .i64 of, .int .i64 sz, .int .u32 u, .slice aa na ac, .bool lg]] w fun e w' => e = .returned (.bool cv) ∧ Fr (fun _ => False) w w' := by
  subst hk hpa
  have HF : Hid (Fr (fun _ => False) w ((w.alloc (.cells #[.slice ga nG gc, vd0, .slice (some ⟨g, o, none⟩) nP pc, mn, nm, vd, pr, .int .i64 R, .slice oa nO oc, bl] 79)).alloc (.cells #[.int .i64 9, .int .i64 D, .int .i64 A, .int .i64 B, .int .i64 fn, .int .i64 (k : Int), .int .i64 of, .int .i64 sz, .int .u32 u, .slice aa na ac, .bool lg] 48))) := Lib.hid (fr_al (fr_al (Fr.refl _ _) _) _)
  have k1 := HF.out.cell hc id
  clear hc
  go_enter Try.func62, Try.ntmps62
  go_wp2
  go_ret
  exact ⟨rfl, HF.out⟩
set_option maxRecDepth 100000 in
set_option maxHeartbeats 8000000 in
theorem args_call (ga pa oa : Option Addr) (nG nP nO gc pc oc : Nat) (vd0 mn nm vd pr bl : Value) (R : Int) (cp : Int) (D A B fn ob of sz u : Int) (aa : Option Addr) (na ac : Nat) (lg : Bool) (args : List Int) (hna : na = args.length) (hnb : na ≤ 9223372036854775807) (bG : Bool) (hG : bG = true ↔ (na : Int) = cp ∧ ArgP R args) (g o k : Nat) (hk : ob = (k : Int)) (hkn : k < nP) (hpa : pa = some ⟨g, o, none⟩) (w : World) (hc : w.cell? ⟨g, o + k * 6 + 2, none⟩ = some (.int .i64 cp)) (hat : IntsAt w aa args) : Calls Try.prog 63 #[.agg #[.slice ga nG gc, vd0, .slice pa nP pc, mn, nm, vd, pr, .int .i64 R, .slice oa nO oc, bl], .agg #[.int .i64 9, .int .i64 D, .int .i64 A, .int .i64 B, .int .i64 fn, .int .i64 ob, .int .i64 of, .int .i64 sz, .int .u32 u, .slice aa na ac, .bool lg], .bool true] w fun e w' => e = .returned (.bool bG) ∧ Fr (fun _ => False) w w' := by
  subst hk hpa
  have hmf : ∀ (fn : Fn) (first cap : Array Value) (w : World), (Instr.makeFunc fn first cap).run Try.prog w = .ok (.func fn first cap) w := fun _ _ _ _ => rfl
  have HF : Hid (Fr (fun _ => False) w ((w.alloc (.cells #[.slice ga nG gc, vd0, .slice (some ⟨g, o, none⟩) nP pc, mn, nm, vd, pr, .int .i64 R, .slice oa nO oc, bl] 79)).alloc (.cells #[.int .i64 9, .int .i64 D, .int .i64 A, .int .i64 B, .int .i64 fn, .int .i64 (k : Int), .int .i64 of, .int .i64 sz, .int .u32 u, .slice aa na ac, .bool lg] 48))) := Lib.hid (fr_al (fr_al (Fr.refl _ _) _) _)
  have kc := HF.out.cell hc id
  obtain ⟨bc, hbc⟩ : ∃ b : Bool, (((na : Nat) : Int) == cp) = b := ⟨_, rfl⟩
  obtain ⟨bq, hbq⟩ : ∃ b : Bool, (b = true ↔ ¬ArgP R args) := by
    by_cases q : ArgP R args
    · exact ⟨false, iff_of_false Bool.false_ne_true (fun h => h q)⟩
    · exact ⟨true, iff_of_true rfl q⟩
  have HGE : Hid (bG = (bc && !bq)) := Lib.hid (bool_of hG (by
    rw [← hbc, Bool.and_eq_true, beq_iff_eq]
    cases bq <;> simp_all))
  have RV : Hid (Rqw ((w.alloc (.cells #[.slice ga nG gc, vd0, .slice (some ⟨g, o, none⟩) nP pc, mn, nm, vd, pr, .int .i64 R, .slice oa nO oc, bl] 79)).alloc (.cells #[.int .i64 9, .int .i64 D, .int .i64 A, .int .i64 B, .int .i64 fn, .int .i64 (k : Int), .int .i64 of, .int .i64 sz, .int .u32 u, .slice aa na ac, .bool lg] 48)) w.heap.size #[.slice ga nG gc, vd0, .slice (some ⟨g, o, none⟩) nP pc, mn, nm, vd, pr, .int .i64 R, .slice oa nO oc, bl]) := Lib.hid (fun j y h => two1 w _ _ _ _ j y h)
  have KH : Hid (∀ W, Fr (fun _ => False) ((w.alloc (.cells #[.slice ga nG gc, vd0, .slice (some ⟨g, o, none⟩) nP pc, mn, nm, vd, pr, .int .i64 R, .slice oa nO oc, bl] 79)).alloc (.cells #[.int .i64 9, .int .i64 D, .int .i64 A, .int .i64 B, .int .i64 fn, .int .i64 (k : Int), .int .i64 of, .int .i64 sz, .int .u32 u, .slice aa na ac, .bool lg] 48)) W → Calls Try.prog 72 #[.slice aa na ac, .func (.func 73) #[] #[.pointer (some ⟨w.heap.size, 0, none⟩)]] W fun e w' => e = .returned (.bool bq) ∧ Fr (fun _ => False) W w') := Lib.hid (fun W h => (has_reg ga (some ⟨g, o, none⟩) oa nG nP nO gc pc oc vd0 mn nm vd pr bl R args aa na ac hna hnb w.heap.size W (hat.fr (HF.out.trans h)) (RV.out.fr h)).mono (fun e w' q => ⟨by obtain ⟨t, q1, q2⟩ := q.1; rw [q1, bool_of q2 hbq], q.2⟩))
  have v0 : ((w.alloc (.cells #[.slice ga nG gc, vd0, .slice (some ⟨g, o, none⟩) nP pc, mn, nm, vd, pr, .int .i64 R, .slice oa nO oc, bl] 79)).alloc (.cells #[.int .i64 9, .int .i64 D, .int .i64 A, .int .i64 B, .int .i64 fn, .int .i64 (k : Int), .int .i64 of, .int .i64 sz, .int .u32 u, .slice aa na ac, .bool lg] 48)).cell? ⟨w.heap.size, 0, none⟩ = some (.slice ga nG gc) := two1 w _ _ _ _ 0 _ rfl
  have v1 : ((w.alloc (.cells #[.slice ga nG gc, vd0, .slice (some ⟨g, o, none⟩) nP pc, mn, nm, vd, pr, .int .i64 R, .slice oa nO oc, bl] 79)).alloc (.cells #[.int .i64 9, .int .i64 D, .int .i64 A, .int .i64 B, .int .i64 fn, .int .i64 (k : Int), .int .i64 of, .int .i64 sz, .int .u32 u, .slice aa na ac, .bool lg] 48)).cell? ⟨w.heap.size, 1, none⟩ = some (vd0) := two1 w _ _ _ _ 1 _ rfl
  have v2 : ((w.alloc (.cells #[.slice ga nG gc, vd0, .slice (some ⟨g, o, none⟩) nP pc, mn, nm, vd, pr, .int .i64 R, .slice oa nO oc, bl] 79)).alloc (.cells #[.int .i64 9, .int .i64 D, .int .i64 A, .int .i64 B, .int .i64 fn, .int .i64 (k : Int), .int .i64 of, .int .i64 sz, .int .u32 u, .slice aa na ac, .bool lg] 48)).cell? ⟨w.heap.size, 2, none⟩ = some (.slice (some ⟨g, o, none⟩) nP pc) := two1 w _ _ _ _ 2 _ rfl
  have v3 : ((w.alloc (.cells #[.slice ga nG gc, vd0, .slice (some ⟨g, o, none⟩) nP pc, mn, nm, vd, pr, .int .i64 R, .slice oa nO oc, bl] 79)).alloc (.cells #[.int .i64 9, .int .i64 D, .int .i64 A, .int .i64 B, .int .i64 fn, .int .i64 (k : Int), .int .i64 of, .int .i64 sz, .int .u32 u, .slice aa na ac, .bool lg] 48)).cell? ⟨w.heap.size, 3, none⟩ = some (mn) := two1 w _ _ _ _ 3 _ rfl
  have v4 : ((w.alloc (.cells #[.slice ga nG gc, vd0, .slice (some ⟨g, o, none⟩) nP pc, mn, nm, vd, pr, .int .i64 R, .slice oa nO oc, bl] 79)).alloc (.cells #[.int .i64 9, .int .i64 D, .int .i64 A, .int .i64 B, .int .i64 fn, .int .i64 (k : Int), .int .i64 of, .int .i64 sz, .int .u32 u, .slice aa na ac, .bool lg] 48)).cell? ⟨w.heap.size, 4, none⟩ = some (nm) := two1 w _ _ _ _ 4 _ rfl
  have v5 : ((w.alloc (.cells #[.slice ga nG gc, vd0, .slice (some ⟨g, o, none⟩) nP pc, mn, nm, vd, pr, .int .i64 R, .slice oa nO oc, bl] 79)).alloc (.cells #[.int .i64 9, .int .i64 D, .int .i64 A, .int .i64 B, .int .i64 fn, .int .i64 (k : Int), .int .i64 of, .int .i64 sz, .int .u32 u, .slice aa na ac, .bool lg] 48)).cell? ⟨w.heap.size, 5, none⟩ = some (vd) := two1 w _ _ _ _ 5 _ rfl
  have v6 : ((w.alloc (.cells #[.slice ga nG gc, vd0, .slice (some ⟨g, o, none⟩) nP pc, mn, nm, vd, pr, .int .i64 R, .slice oa nO oc, bl] 79)).alloc (.cells #[.int .i64 9, .int .i64 D, .int .i64 A, .int .i64 B, .int .i64 fn, .int .i64 (k : Int), .int .i64 of, .int .i64 sz, .int .u32 u, .slice aa na ac, .bool lg] 48)).cell? ⟨w.heap.size, 6, none⟩ = some (pr) := two1 w _ _ _ _ 6 _ rfl
  have v7 : ((w.alloc (.cells #[.slice ga nG gc, vd0, .slice (some ⟨g, o, none⟩) nP pc, mn, nm, vd, pr, .int .i64 R, .slice oa nO oc, bl] 79)).alloc (.cells #[.int .i64 9, .int .i64 D, .int .i64 A, .int .i64 B, .int .i64 fn, .int .i64 (k : Int), .int .i64 of, .int .i64 sz, .int .u32 u, .slice aa na ac, .bool lg] 48)).cell? ⟨w.heap.size, 7, none⟩ = some (.int .i64 R) := two1 w _ _ _ _ 7 _ rfl
  have v8 : ((w.alloc (.cells #[.slice ga nG gc, vd0, .slice (some ⟨g, o, none⟩) nP pc, mn, nm, vd, pr, .int .i64 R, .slice oa nO oc, bl] 79)).alloc (.cells #[.int .i64 9, .int .i64 D, .int .i64 A, .int .i64 B, .int .i64 fn, .int .i64 (k : Int), .int .i64 of, .int .i64 sz, .int .u32 u, .slice aa na ac, .bool lg] 48)).cell? ⟨w.heap.size, 8, none⟩ = some (.slice oa nO oc) := two1 w _ _ _ _ 8 _ rfl
  have v9 : ((w.alloc (.cells #[.slice ga nG gc, vd0, .slice (some ⟨g, o, none⟩) nP pc, mn, nm, vd, pr, .int .i64 R, .slice oa nO oc, bl] 79)).alloc (.cells #[.int .i64 9, .int .i64 D, .int .i64 A, .int .i64 B, .int .i64 fn, .int .i64 (k : Int), .int .i64 of, .int .i64 sz, .int .u32 u, .slice aa na ac, .bool lg] 48)).cell? ⟨w.heap.size, 9, none⟩ = some (bl) := two1 w _ _ _ _ 9 _ rfl
  have i0 : ((w.alloc (.cells #[.slice ga nG gc, vd0, .slice (some ⟨g, o, none⟩) nP pc, mn, nm, vd, pr, .int .i64 R, .slice oa nO oc, bl] 79)).alloc (.cells #[.int .i64 9, .int .i64 D, .int .i64 A, .int .i64 B, .int .i64 fn, .int .i64 (k : Int), .int .i64 of, .int .i64 sz, .int .u32 u, .slice aa na ac, .bool lg] 48)).cell? ⟨w.heap.size + 1, 0, none⟩ = some (.int .i64 9) := two2 w _ _ _ _ 0 _ rfl
  have i1 : ((w.alloc (.cells #[.slice ga nG gc, vd0, .slice (some ⟨g, o, none⟩) nP pc, mn, nm, vd, pr, .int .i64 R, .slice oa nO oc, bl] 79)).alloc (.cells #[.int .i64 9, .int .i64 D, .int .i64 A, .int .i64 B, .int .i64 fn, .int .i64 (k : Int), .int .i64 of, .int .i64 sz, .int .u32 u, .slice aa na ac, .bool lg] 48)).cell? ⟨w.heap.size + 1, 1, none⟩ = some (.int .i64 D) := two2 w _ _ _ _ 1 _ rfl
  have i2 : ((w.alloc (.cells #[.slice ga nG gc, vd0, .slice (some ⟨g, o, none⟩) nP pc, mn, nm, vd, pr, .int .i64 R, .slice oa nO oc, bl] 79)).alloc (.cells #[.int .i64 9, .int .i64 D, .int .i64 A, .int .i64 B, .int .i64 fn, .int .i64 (k : Int), .int .i64 of, .int .i64 sz, .int .u32 u, .slice aa na ac, .bool lg] 48)).cell? ⟨w.heap.size + 1, 2, none⟩ = some (.int .i64 A) := two2 w _ _ _ _ 2 _ rfl
  have i3 : ((w.alloc (.cells #[.slice ga nG gc, vd0, .slice (some ⟨g, o, none⟩) nP pc, mn, nm, vd, pr, .int .i64 R, .slice oa nO oc, bl] 79)).alloc (.cells #[.int .i64 9, .int .i64 D, .int .i64 A, .int .i64 B, .int .i64 fn, .int .i64 (k : Int), .int .i64 of, .int .i64 sz, .int .u32 u, .slice aa na ac, .bool lg] 48)).cell? ⟨w.heap.size + 1, 3, none⟩ = some (.int .i64 B) := two2 w _ _ _ _ 3 _ rfl
  have i4 : ((w.alloc (.cells #[.slice ga nG gc, vd0, .slice (some ⟨g, o, none⟩) nP pc, mn, nm, vd, pr, .int .i64 R, .slice oa nO oc, bl] 79)).alloc (.cells #[.int .i64 9, .int .i64 D, .int .i64 A, .int .i64 B, .int .i64 fn, .int .i64 (k : Int), .int .i64 of, .int .i64 sz, .int .u32 u, .slice aa na ac, .bool lg] 48)).cell? ⟨w.heap.size + 1, 4, none⟩ = some (.int .i64 fn) := two2 w _ _ _ _ 4 _ rfl
  have i5 : ((w.alloc (.cells #[.slice ga nG gc, vd0, .slice (some ⟨g, o, none⟩) nP pc, mn, nm, vd, pr, .int .i64 R, .slice oa nO oc, bl] 79)).alloc (.cells #[.int .i64 9, .int .i64 D, .int .i64 A, .int .i64 B, .int .i64 fn, .int .i64 (k : Int), .int .i64 of, .int .i64 sz, .int .u32 u, .slice aa na ac, .bool lg] 48)).cell? ⟨w.heap.size + 1, 5, none⟩ = some (.int .i64 (k : Int)) := two2 w _ _ _ _ 5 _ rfl
  have i6 : ((w.alloc (.cells #[.slice ga nG gc, vd0, .slice (some ⟨g, o, none⟩) nP pc, mn, nm, vd, pr, .int .i64 R, .slice oa nO oc, bl] 79)).alloc (.cells #[.int .i64 9, .int .i64 D, .int .i64 A, .int .i64 B, .int .i64 fn, .int .i64 (k : Int), .int .i64 of, .int .i64 sz, .int .u32 u, .slice aa na ac, .bool lg] 48)).cell? ⟨w.heap.size + 1, 6, none⟩ = some (.int .i64 of) := two2 w _ _ _ _ 6 _ rfl
  have i7 : ((w.alloc (.cells #[.slice ga nG gc, vd0, .slice (some ⟨g, o, none⟩) nP pc, mn, nm, vd, pr, .int .i64 R, .slice oa nO oc, bl] 79)).alloc (.cells #[.int .i64 9, .int .i64 D, .int .i64 A, .int .i64 B, .int .i64 fn, .int .i64 (k : Int), .int .i64 of, .int .i64 sz, .int .u32 u, .slice aa na ac, .bool lg] 48)).cell? ⟨w.heap.size + 1, 7, none⟩ = some (.int .i64 sz) := two2 w _ _ _ _ 7 _ rfl
  have i8 : ((w.alloc (.cells #[.slice ga nG gc, vd0, .slice (some ⟨g, o, none⟩) nP pc, mn, nm, vd, pr, .int .i64 R, .slice oa nO oc, bl] 79)).alloc (.cells #[.int .i64 9, .int .i64 D, .int .i64 A, .int .i64 B, .int .i64 fn, .int .i64 (k : Int), .int .i64 of, .int .i64 sz, .int .u32 u, .slice aa na ac, .bool lg] 48)).cell? ⟨w.heap.size + 1, 8, none⟩ = some (.int .u32 u) := two2 w _ _ _ _ 8 _ rfl
  have i9 : ((w.alloc (.cells #[.slice ga nG gc, vd0, .slice (some ⟨g, o, none⟩) nP pc, mn, nm, vd, pr, .int .i64 R, .slice oa nO oc, bl] 79)).alloc (.cells #[.int .i64 9, .int .i64 D, .int .i64 A, .int .i64 B, .int .i64 fn, .int .i64 (k : Int), .int .i64 of, .int .i64 sz, .int .u32 u, .slice aa na ac, .bool lg] 48)).cell? ⟨w.heap.size + 1, 9, none⟩ = some (.slice aa na ac) := two2 w _ _ _ _ 9 _ rfl
  have i10 : ((w.alloc (.cells #[.slice ga nG gc, vd0, .slice (some ⟨g, o, none⟩) nP pc, mn, nm, vd, pr, .int .i64 R, .slice oa nO oc, bl] 79)).alloc (.cells #[.int .i64 9, .int .i64 D, .int .i64 A, .int .i64 B, .int .i64 fn, .int .i64 (k : Int), .int .i64 of, .int .i64 sz, .int .u32 u, .slice aa na ac, .bool lg] 48)).cell? ⟨w.heap.size + 1, 10, none⟩ = some (.bool lg) := two2 w _ _ _ _ 10 _ rfl
  clear hc hat hG hbq hna
  go_enter Try.func63, Try.ntmps63
  go_wp2_with fail
  generalize ((w.alloc (.cells #[.slice ga nG gc, vd0, .slice (some ⟨g, o, none⟩) nP pc, mn, nm, vd, pr, .int .i64 R, .slice oa nO oc, bl] 79)).alloc (.cells #[.int .i64 9, .int .i64 D, .int .i64 A, .int .i64 B, .int .i64 fn, .int .i64 (k : Int), .int .i64 of, .int .i64 sz, .int .u32 u, .slice aa na ac, .bool lg] 48)) = V at *
  generalize w.heap.size = vb at *
  cases bc
  · refine wp_region_class (fun W => Fr (fun _ => False) V W) (by kernel_rfl) (by kernel_rfl) ((Fr.refl _ _).drewN 1) ?_
    repeat (first
      | go_big_quiet_skip
      | (go_big_quiet_want; go_big_quiet_op; first
        | go_big_quiet_on
        | (apply Exists.intro; refine ⟨fun W hW => ?_, ?_⟩; (first
          | with_reducible rfl
          | (simp only [Result.andThen, hW.cell i0 id, hW.cell i1 id, hW.cell i2 id, hW.cell i3 id, hW.cell i4 id, hW.cell i5 id, hW.cell i6 id, hW.cell i7 id, hW.cell i8 id, hW.cell i9 id, hW.cell i10 id, hW.cell v0 id, hW.cell v1 id, hW.cell v2 id, hW.cell v3 id, hW.cell v4 id, hW.cell v5 id, hW.cell v6 id, hW.cell v7 id, hW.cell v8 id, hW.cell v9 id, hW.cell kc id]; first | exact ⟨rfl, rfl⟩ | exact ⟨trivial, rfl⟩)
          | (go_at_call 72; with_reducible exact callQ hW (KH.out _ hW))); go_big_quiet_on)))
    refine wpQuiet_nil ?_
    intro w6 hf6
    have HF6 := Lib.hid hf6
    clear hf6
    go_wp2_with fail
    go_ret
    exact ⟨by rw [HGE.out]; rfl, HF.out.trans HF6.out⟩
  · refine wp_region_class (fun W => Fr (fun _ => False) V W) (by kernel_rfl) (by kernel_rfl) ((Fr.refl _ _).drewN 1) ?_
    repeat (first
      | go_big_quiet_skip
      | (go_big_quiet_want; go_big_quiet_op; first
        | go_big_quiet_on
        | (apply Exists.intro; refine ⟨fun W hW => ?_, ?_⟩; (first
          | with_reducible rfl
          | (simp only [Result.andThen, hW.cell i0 id, hW.cell i1 id, hW.cell i2 id, hW.cell i3 id, hW.cell i4 id, hW.cell i5 id, hW.cell i6 id, hW.cell i7 id, hW.cell i8 id, hW.cell i9 id, hW.cell i10 id, hW.cell v0 id, hW.cell v1 id, hW.cell v2 id, hW.cell v3 id, hW.cell v4 id, hW.cell v5 id, hW.cell v6 id, hW.cell v7 id, hW.cell v8 id, hW.cell v9 id, hW.cell kc id]; first | exact ⟨rfl, rfl⟩ | exact ⟨trivial, rfl⟩)
          | (go_at_call 72; with_reducible exact callQ hW (KH.out _ hW))); go_big_quiet_on)))
    refine wpQuiet_nil ?_
    intro w6 hf6
    have HF6 := Lib.hid hf6
    clear hf6
    go_wp2_with fail
    go_ret
    exact ⟨by rw [HGE.out]; cases bq <;> rfl, HF.out.trans HF6.out⟩
end Go.Proofs.Ythdkmjbeemfbbaa
