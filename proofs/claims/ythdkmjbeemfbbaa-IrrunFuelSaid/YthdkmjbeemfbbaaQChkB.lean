/-
  Modules (layer 13): the tests of a procedure's view, any. Modules (layer 13): variables that may be, and their data.
-/
import Derived.Test.YthdkmjbeemfbbaaQChkA
import Derived.Test.YthdkmjbeemfbbaaQTelA
import Derived.LoopTactic
namespace Go.Proofs.Ythdkmjbeemfbbaa
open Go.RowKit
set_option linter.unusedVariables false
set_option linter.unusedSimpArgs false
/-- Whether an instruction is right, as an answer. -/
def InsR (R : Int) (nO nG nP : Nat) (cp : Int) (cv : Bool) (i : Inn) (e : Ending) : Prop := ∃ t : Bool, e = .returned (.bool t) ∧ (t = true ↔ InsP R nO nG nP cp cv i)
theorem view_boxes (w : World) (A B C : Array Value) : ∀ W, Fr (fun _ => False) ((w.alloc (.cells A 79)).alloc (.cells B 48)) W →
    (∀ (j : Nat) (y : Value), A[j]? = some y → (W.alloc (.cells C 102)).cell? ⟨w.heap.size, j, none⟩ = some y) ∧ (∀ (j : Nat) (y : Value), B[j]? = some y → (W.alloc (.cells C 102)).cell? ⟨w.heap.size + 1, j, none⟩ = some y) ∧ (∀ (j : Nat) (y : Value), C[j]? = some y → (W.alloc (.cells C 102)).cell? ⟨W.heap.size, j, none⟩ = some y) ∧ Fr (fun _ => False) w (W.alloc (.cells C 102)) := fun W h =>
  ⟨fun j y hj => (fr_al h _).cell (two1 w A B _ _ j y hj) id, fun j y hj => (fr_al h _).cell (two2 w A B _ _ j y hj) id, fun j y hj => fcell W C _ j y hj, fr_al ((fr_al (fr_al (Fr.refl _ _) _) _).trans h) _⟩
theorem bool_of {b c : Bool} {P : Prop} (h1 : b = true ↔ P) (h2 : c = true ↔ P) : b = c := by
  cases b <;> cases c <;> simp_all
theorem reg_dec (g d p m nm vd pa ob bl : Value) (R r : Int) (u b : Bool) (h : b = true ↔ (if u = true then RgP R r else r = -1)) (w : World) : Calls Try.prog 57 #[.agg #[g, d, p, m, nm, vd, pa, .int .i64 R, ob, bl], .int .i64 r, .bool u] w fun e w' => e = .returned (.bool b) ∧ Fr (fun _ => False) w w' := by
  cases u
  · exact (register_un g d p m nm vd pa ob bl R r w).mono fun e w' q => ⟨by rw [q.1]; congr 2; exact bool_of (P := r = -1) (by simp) (by simpa using h), q.2⟩
  · exact (register_used g d p m nm vd pa ob bl R r w).mono fun e w' q => ⟨by rw [q.1]; congr 2; exact bool_of (P := RgP R r) (by simp [RgP]) (by simpa using h), q.2⟩
set_option maxRecDepth 100000 in
set_option maxHeartbeats 4000000 in
theorem args_dec (g d p m nm vd pa ob bl R : Value) (x0 x1 x2 x3 x4 x5 x6 x7 x8 x10 : Value) (aa : Option Addr) (na ac : Nat) (b : Bool) (h : b = true ↔ na = 0) (w : World) : Calls Try.prog 63 #[.agg #[g, d, p, m, nm, vd, pa, R, ob, bl], .agg #[x0, x1, x2, x3, x4, x5, x6, x7, x8, .slice aa na ac, x10], .bool false] w fun e w' => e = .returned (.bool b) ∧ Fr (fun _ => False) w w' := by
  have HB : Hid ((((na : Nat) : Int) == 0) = b) := Lib.hid (bool_of (P := na = 0) (by simp) h)
  go_enter Try.func63, Try.ntmps63
  go_wp2
  go_ret
  exact ⟨by first | rfl | (rw [HB.out]; rfl), fr_al (fr_al (Fr.refl _ _) _) _⟩
set_option maxRecDepth 100000 in
set_option maxHeartbeats 4000000 in
theorem void_ne (g d p m nm vd pa ob bl R : Value) (op : Int) (h : (op == 9) = false) (x1 x2 x3 x4 x5 x6 x7 x8 x9 x10 : Value) (w : World) : Calls Try.prog 62 #[.agg #[g, d, p, m, nm, vd, pa, R, ob, bl], .agg #[.int .i64 op, x1, x2, x3, x4, x5, x6, x7, x8, x9, x10]] w fun e w' => e = .returned (.bool false) ∧ Fr (fun _ => False) w w' := by
  go_enter Try.func62, Try.ntmps62
  go_wp2
  go_ret
  exact ⟨rfl, fr_al (fr_al (Fr.refl _ _) _) _⟩
theorem within_dec (x lo hi : Int) (b : Bool) (h : b = true ↔ lo ≤ x ∧ x ≤ hi) (w : World) : Calls Try.prog 22 #[.int .i64 x, .int .i64 lo, .int .i64 hi] w fun e w' => e = .returned (.bool b) ∧ Fr (fun _ => False) w w' :=
  (c22 x lo hi w).mono fun e w' q => ⟨by rw [q.1]; congr 2; exact bool_of (P := lo ≤ x ∧ x ≤ hi) (by simp) h, q.2 ▸ Fr.refl _ _⟩
theorem index_dec (x n : Int) (b : Bool) (h : b = true ↔ 0 ≤ x ∧ x < n) (w : World) : Calls Try.prog 23 #[.int .i64 x, .int .i64 n] w fun e w' => e = .returned (.bool b) ∧ Fr (fun _ => False) w w' :=
  (c23 x n w).mono fun e w' q => ⟨by rw [q.1]; congr 2; exact bool_of (P := 0 ≤ x ∧ x < n) (by simp) h, q.2 ▸ Fr.refl _ _⟩
def FnP (op fn : Int) : Prop := if op = 3 then 1 ≤ fn ∧ fn ≤ 16 else if op = 4 then 17 ≤ fn ∧ fn ≤ 19 else fn = 0
set_option maxRecDepth 100000 in
set_option maxHeartbeats 4000000 in
theorem fn_dec (op fn : Int) (b : Bool) (h : b = true ↔ FnP op fn) (w : World) : Calls Try.prog 65 #[.int .i64 op, .int .i64 fn] w fun e w' => e = .returned (.bool b) ∧ Fr (fun _ => False) w w' := by
  unfold FnP at h
  by_cases h3 : op = 3
  · subst h3
    have K := Lib.hid (fun W => within_dec fn 1 16 b (by simpa using h) W)
    clear h
    go_enter Try.func65, Try.ntmps65
    go_wp2_with (go_at_call 22; (with_reducible refine (K.out _).mono ?_); rintro e w2 ⟨rfl, hf⟩; have HF := Lib.hid hf; clear hf)
    go_ret
    exact ⟨rfl, HF.out⟩
  · by_cases h4 : op = 4
    · subst h4
      have K := Lib.hid (fun W => within_dec fn 17 19 b (by simpa using h) W)
      clear h
      go_enter Try.func65, Try.ntmps65
      go_wp2_with (go_at_call 22; (with_reducible refine (K.out _).mono ?_); rintro e w2 ⟨rfl, hf⟩; have HF := Lib.hid hf; clear hf)
      go_ret
      exact ⟨rfl, HF.out⟩
    · rw [if_neg h3, if_neg h4] at h
      exact (c65 op fn h3 h4 w).mono fun e w' q => ⟨by rw [q.1]; congr 2; exact bool_of (P := fn = 0) (by simp) h, q.2 ▸ Fr.refl _ _⟩
set_option maxRecDepth 100000 in
set_option maxHeartbeats 4000000 in
theorem objs_any (ga : Option Addr) (nG gc : Nat) (d : Value) (pa : Option Addr) (nP pc : Nat) (m nm vd pr R : Value) (oa : Option Addr) (nO oc : Nat) (bl : Value) (op : Int) (w : World) : Calls Try.prog 61 #[.agg #[.slice ga nG gc, d, .slice pa nP pc, m, nm, vd, pr, R, .slice oa nO oc, bl], .int .i64 op] w fun e w' => e = .returned (.int .i64 (if op = 7 then (nO : Int) else if op = 8 then (nG : Int) else (nP : Int))) ∧ Fr (fun _ => False) w w' := by
  by_cases h7 : op = 7
  · subst h7
    go_enter Try.func61, Try.ntmps61
    go_wp2
    go_ret
    exact ⟨rfl, fr_al (Fr.refl _ _) _⟩
  · by_cases h8 : op = 8
    · subst h8
      go_enter Try.func61, Try.ntmps61
      go_wp2
      go_ret
      exact ⟨rfl, fr_al (Fr.refl _ _) _⟩
    · rw [if_neg h7, if_neg h8]
      go_enter Try.func61, Try.ntmps61
      go_wp2
      go_ret
      exact ⟨rfl, fr_al (Fr.refl _ _) _⟩
def dfkI (op d : Int) : Int := if hasD op = true then d else -1
set_option maxRecDepth 100000 in
set_option maxHeartbeats 4000000 in
theorem dfk_any (op d : Int) (y2 y3 y4 y5 y6 y7 y8 y9 y10 : Value) (w : World) : Calls Try.prog 64 #[.agg #[.int .i64 op, .int .i64 d, y2, y3, y4, y5, y6, y7, y8, y9, y10]] w fun e w' => e = .returned (.int .i64 (dfkI op d)) ∧ Fr (fun _ => False) w w' := by
  have hfi := fld1
  have HFO := fo_any op
  by_cases h : hasD op = true
  · have HN := Lib.hid (show dfkI op d = d by unfold dfkI; rw [if_pos h])
    simp only [h] at HFO
    clear h
    have HFO := Lib.hid HFO
    go_enter Try.func64, Try.ntmps64
    go_wp2_with (go_at_call 60; (with_reducible refine (HFO.out _).mono ?_); rintro e w2 ⟨⟨z0, z5, z6, z7, z8, z9, z10, rfl⟩, hf⟩; have HF := Lib.hid hf; have k1 := hf.cell (fcell w _ _ 1 _ rfl) id; clear hf)
    go_ret
    exact ⟨by rw [HN.out]; rfl, (fr_al (Fr.refl _ _) _).trans HF.out⟩
  · have HN := Lib.hid (show dfkI op d = -1 by unfold dfkI; rw [if_neg h])
    have h' : hasD op = false := by simpa using h
    simp only [h'] at HFO
    clear h h'
    have HFO := Lib.hid HFO
    go_enter Try.func64, Try.ntmps64
    go_wp2_with (go_at_call 60; (with_reducible refine (HFO.out _).mono ?_); rintro e w2 ⟨⟨z0, z5, z6, z7, z8, z9, z10, rfl⟩, hf⟩; have HF := Lib.hid hf; have k1 := hf.cell (fcell w _ _ 1 _ rfl) id; clear hf)
    go_ret
    exact ⟨by rw [HN.out]; rfl, (fr_al (Fr.refl _ _) _).trans HF.out⟩
theorem slt_b (sz al : Int) (bs : Bool) (hbs : bs = true ↔ 1 ≤ sz ∧ sz ≤ 32768) : (!bs || (al != 1) && (al != 4)) = true ↔ ¬(1 ≤ sz ∧ sz ≤ 32768 ∧ (al = 1 ∨ al = 4)) := by
  have q : bs = false ↔ ¬(1 ≤ sz ∧ sz ≤ 32768) := by rw [← hbs]; cases bs <;> simp
  simp only [Bool.or_eq_true, Bool.and_eq_true, Bool.not_eq_true', q, bne_iff_ne, ne_eq]
  omega
set_option maxRecDepth 100000 in
set_option maxHeartbeats 4000000 in
theorem ask_slt (nm ce : Value) (sz al : Int) (b : Bool) (h : b = true ↔ ¬(1 ≤ sz ∧ sz ≤ 32768 ∧ (al = 1 ∨ al = 4))) (w : World) : Calls Try.prog 40 #[.agg #[nm, .int .i64 sz, .int .i64 al, ce]] w fun e w' => e = .returned (.bool b) ∧ Fr (fun _ => False) w w' := by
  obtain ⟨bs, hbs⟩ : ∃ b : Bool, (b = true ↔ 1 ≤ sz ∧ sz ≤ 32768) := ⟨decide (1 ≤ sz ∧ sz ≤ 32768), by simp⟩
  have hsb := slt_b sz al bs hbs
  obtain ⟨b1, e1⟩ : ∃ b : Bool, (al != 1) = b := ⟨_, rfl⟩
  obtain ⟨b4, e4⟩ : ∃ b : Bool, (al != 4) = b := ⟨_, rfl⟩
  have KW := Lib.hid (fun W => within_dec sz 1 32768 bs hbs W)
  rw [e1, e4] at hsb
  have HB : Hid (b = (!bs || b1 && b4)) := Lib.hid (bool_of h hsb)
  clear h hbs hsb
  have HF0 : Hid (Fr (fun _ => False) w (w.alloc (.cells #[nm, .int .i64 sz, .int .i64 al, ce] 63))) := Lib.hid (fr_al (Fr.refl _ _) _)
  have c2 := fcell w #[nm, .int .i64 sz, .int .i64 al, ce] 63 2 _ rfl
  cases bs
  · go_enter Try.func40, Try.ntmps40
    go_wp2_with (go_at_call 22; (with_reducible refine (KW.out _).mono ?_); rintro e w2 ⟨rfl, hf⟩; have HF := Lib.hid hf; clear hf)
    go_ret
    exact ⟨by rw [HB.out]; rfl, HF0.out.trans HF.out⟩
  · cases b1
    · cases b4
      · go_enter Try.func40, Try.ntmps40
        go_wp2_with (go_at_call 22; (with_reducible refine (KW.out _).mono ?_); rintro e w2 ⟨rfl, hf⟩; have HF := Lib.hid hf; have d2 := hf.cell c2 id; clear hf)
        go_ret
        exact ⟨by rw [HB.out]; rfl, HF0.out.trans HF.out⟩
      · go_enter Try.func40, Try.ntmps40
        go_wp2_with (go_at_call 22; (with_reducible refine (KW.out _).mono ?_); rintro e w2 ⟨rfl, hf⟩; have HF := Lib.hid hf; have d2 := hf.cell c2 id; clear hf)
        go_ret
        exact ⟨by rw [HB.out]; rfl, HF0.out.trans HF.out⟩
    · go_enter Try.func40, Try.ntmps40
      go_wp2_with (go_at_call 22; (with_reducible refine (KW.out _).mono ?_); rintro e w2 ⟨rfl, hf⟩; have HF := Lib.hid hf; have d2 := hf.cell c2 id; clear hf)
      go_ret
      exact ⟨by rw [HB.out]; rfl, HF0.out.trans HF.out⟩
/-- Where the first thing stands of which a test says yes: somewhere, or nowhere. -/
def AskR (P : Prop) (e : Ending) : Prop := ∃ x : Int, e = .returned (.int .i64 x) ∧ (0 ≤ x ↔ P)
def IsR (P : Prop) (e : Ending) : Prop := ∃ t : Bool, e = .returned (.bool t) ∧ (t = true ↔ P)
set_option maxRecDepth 100000 in
set_option maxHeartbeats 4000000 in
theorem idx_slt (l : List Slt) (a : Option Addr) (c : Nat) (hb : l.length ≤ 9223372036854775807) (w : World) (h : SltL w a l) : Calls Try.prog 56 #[.slice a l.length c, .func (.func 40) #[] #[]] w fun e w' => AskR (¬SltsP l) e ∧ Fr (fun _ => False) w w' := by
  obtain ⟨n, hn⟩ : ∃ n, l.length = n := ⟨_, rfl⟩
  have HN := Lib.hid hn
  have HI := Lib.hid h
  rw [hn] at hb ⊢
  clear hn h
  go_enter Try.func56, Try.ntmps56
  go_wp2
  go_loopw [8] (fun q wr => ∃ k : Nat, q = .int .i64 k ∧ k ≤ n ∧ Hid (Fr (fun _ => False) w wr) ∧ Hid (∀ j, j < k → SltP (l.getD j slt0))) (fun q _ => n - (intOf q).toNat)
  case atStart => exact ⟨0, rfl, Nat.zero_le _, Lib.hid (Fr.refl _ _), Lib.hid (fun j hj => absurd hj (by omega))⟩
  case round =>
    obtain ⟨k, rfl, hk, HW, HK⟩ := hrel
    by_cases hlt : k < n
    · obtain ⟨g, o, rfl, c0, c1, c2, c3⟩ := (HI.out.fr HW.out) k (by rw [HN.out]; exact hlt)
      obtain ⟨x, hx⟩ : ∃ x, l.getD k slt0 = x := ⟨_, rfl⟩
      rw [hx] at c0 c1 c2 c3
      have HX := Lib.hid hx
      clear hx
      obtain ⟨nm, sz, al, ce⟩ := x
      simp only at c0 c1 c2 c3
      by_cases e : SltP ⟨nm, sz, al, ce⟩
      · have KA := Lib.hid (fun W => ask_slt (.string nm) (.int .i64 ce) sz al false (iff_of_false Bool.false_ne_true (fun hn => hn e)) W)
        have HK2 : Hid (∀ j, j < k + 1 → SltP (l.getD j slt0)) := Lib.hid (fun j hj => by
          by_cases hjk : j < k
          · exact HK.out j hjk
          · obtain rfl : j = k := by omega
            rw [HX.out]; exact e)
        clear e
        go_wp2_with (go_at_call 40; (with_reducible refine (KA.out _).mono ?_); rintro e w2 ⟨rfl, hf⟩; have HF := Lib.hid (HW.out.trans hf); clear hf)
        go_roundw
        case rel => exact ⟨k + 1, by go_num, by omega, HF, HK2⟩
        case measure => simp [intOf]; omega
      · have KA := Lib.hid (fun W => ask_slt (.string nm) (.int .i64 ce) sz al true (by simp only [true_iff]; exact e) W)
        have HE := Lib.hid e
        clear e
        go_wp2_with (go_at_call 40; (with_reducible refine (KA.out _).mono ?_); rintro e w2 ⟨rfl, hf⟩; have HF := Lib.hid (HW.out.trans hf); clear hf)
        go_ret
        exact ⟨⟨_, rfl, iff_of_true (by omega) (fun hh => HE.out (by have := hh k (by rw [HN.out]; exact hlt); rw [HX.out] at this; exact this))⟩, HF.out⟩
    · obtain rfl : k = n := by omega
      go_wp2
      go_ret
      exact ⟨⟨_, rfl, iff_of_false (by decide) (fun hh => hh (by unfold SltsP; rw [HN.out]; exact HK.out))⟩, HW.out⟩
theorem has_slt (l : List Slt) (a : Option Addr) (c : Nat) (hb : l.length ≤ 9223372036854775807) (w : World) (h : SltL w a l) : Calls Try.prog 39 #[.slice a l.length c, .func (.func 40) #[] #[]] w fun e w' => IsR (¬SltsP l) e ∧ Fr (fun _ => False) w w' := by
  have HC := Lib.hid (idx_slt l a c hb w h)
  clear h
  go_enter Try.func39, Try.ntmps39
  go_wp2_with (go_at_call 56; (with_reducible refine HC.out.mono ?_); rintro e w2 ⟨⟨x, rfl, hx⟩, hf⟩; have HX := Lib.hid hx; have HF := Lib.hid hf; clear hx hf)
  go_ret
  exact ⟨⟨_, rfl, by rw [decide_eq_true_iff]; exact HX.out⟩, HF.out⟩
set_option maxRecDepth 100000 in
set_option maxHeartbeats 4000000 in
theorem slts_fit (l : List Slt) (a : Option Addr) (c : Nat) (hb : l.length ≤ 9223372036854775807) (w : World) (h : SltL w a l) : Calls Try.prog 24 #[.slice a l.length c] w fun e w' => IsR (SltsP l) e ∧ Fr (fun _ => False) w w' := by
  have HC := Lib.hid (has_slt l a c hb w h)
  have hmf : ∀ (fn : Fn) (first cap : Array Value) (w : World), (Instr.makeFunc fn first cap).run Try.prog w = .ok (.func fn first cap) w := fun _ _ _ _ => rfl
  clear h
  go_enter Try.func24, Try.ntmps24
  go_wp2_with (go_at_call 39; (with_reducible refine HC.out.mono ?_); rintro e w2 ⟨⟨x, rfl, hx⟩, hf⟩; have HX := Lib.hid hx; have HF := Lib.hid hf; clear hx hf)
  go_ret
  exact ⟨⟨_, rfl, by have z := HX.out; cases x <;> simp_all⟩, HF.out⟩
/-- Each row of data is as long as its variable. -/
def DatP (m : Mdl) : Prop := ∀ k, k < m.da.length → (m.da.getD k 0 : Int) = (m.gl.getD k slt0).sz
set_option maxRecDepth 100000 in
set_option maxHeartbeats 4000000 in
theorem dat_fit (m : Mdl) (ga da pa : Option Addr) (gc dc pc : Nat) (hlen : m.da.length = m.gl.length) (hb : m.da.length ≤ 9223372036854775807) (hd : ∀ y ∈ m.da, y ≤ maxLen) (w : World) (h : MdlAt w ga da pa m) : Calls Try.prog 25 #[.agg #[.slice ga m.gl.length gc, .slice da m.da.length dc, .slice pa m.pr.length pc, .int .i64 m.mn]] w fun e w' => IsR (DatP m) e ∧ Fr (fun _ => False) w w' := by
  obtain ⟨n, hn⟩ : ∃ n, m.da.length = n := ⟨_, rfl⟩
  have HN := Lib.hid hn
  have HM := Lib.hid h
  have HL := Lib.hid hlen
  have HDM := Lib.hid hd
  have hg : m.gl.length = n := by omega
  have HG := Lib.hid hg
  rw [hn] at hb
  rw [hn, hg]
  generalize m.pr.length = np at *
  generalize m.mn = mn at *
  clear hn h hlen hd hg
  have HF0 : Hid (Fr (fun _ => False) w (w.alloc (.cells #[.slice ga n gc, .slice da n dc, .slice pa np pc, .int .i64 mn] 26))) := Lib.hid (fr_al (Fr.refl _ _) _)
  have k0 := fcell w #[.slice ga n gc, .slice da n dc, .slice pa np pc, .int .i64 mn] 26 0 _ rfl
  go_enter Try.func25, Try.ntmps25
  go_wp2
  generalize w.alloc (.cells #[.slice ga n gc, .slice da n dc, .slice pa np pc, .int .i64 mn] 26) = W0 at *
  go_loopw [8] (fun q wr => ∃ k : Nat, q = .int .i64 k ∧ k ≤ n ∧ Hid (Fr (fun _ => False) W0 wr) ∧ Hid (∀ j, j < k → (m.da.getD j 0 : Int) = (m.gl.getD j slt0).sz)) (fun q _ => n - (intOf q).toNat)
  case atStart => exact ⟨0, rfl, Nat.zero_le _, Lib.hid (Fr.refl _ _), Lib.hid (fun j hj => absurd hj (by omega))⟩
  case round =>
    obtain ⟨k, rfl, hk, HW, HK⟩ := hrel
    have HWW := Lib.hid (HF0.out.trans HW.out)
    by_cases hlt : k < n
    · obtain ⟨g, o, rfl, c0, c1, c2, c3⟩ := (HM.out.g.fr HWW.out) k (by rw [HG.out]; exact hlt)
      obtain ⟨gd, od, ad, cd, rfl, d0⟩ := (HM.out.d.fr HWW.out) k (by rw [HN.out]; exact hlt)
      have j0 := HW.out.cell k0 id
      obtain ⟨x, hx⟩ : ∃ x, (m.gl.getD k slt0).sz = x := ⟨_, rfl⟩
      obtain ⟨y, hy⟩ : ∃ y, m.da.getD k 0 = y := ⟨_, rfl⟩
      rw [hx] at c1
      rw [hy] at d0
      have hyb : y ≤ 9223372036854775807 := by
        have q := HDM.out (m.da.getD k 0) (by rw [List.getD_eq_getElem?_getD, List.getElem?_eq_getElem (by rw [HN.out]; exact hlt)]; exact List.getElem_mem _)
        rw [hy] at q; unfold maxLen at q; omega
      have HXY := Lib.hid (And.intro hx hy)
      clear hx hy c0 c2 c3
      by_cases e : (y : Int) = x
      · have e' : ((y : Int) == x) = true := by simpa using e
        have HK2 : Hid (∀ j, j < k + 1 → (m.da.getD j 0 : Int) = (m.gl.getD j slt0).sz) := Lib.hid (fun j hj => by
          by_cases hjk : j < k
          · exact HK.out j hjk
          · obtain rfl : j = k := by omega
            rw [HXY.out.1, HXY.out.2]; exact e)
        clear e
        go_wp2
        go_roundw
        case rel => exact ⟨k + 1, by go_num, by omega, HW, HK2⟩
        case measure => simp [intOf]; omega
      · have e' : ((y : Int) == x) = false := by simpa using e
        have HE := Lib.hid e
        clear e
        go_wp2
        go_ret
        exact ⟨⟨_, rfl, iff_of_false (by decide) (fun hh => HE.out (by have := hh k (by rw [HN.out]; exact hlt); rw [HXY.out.1, HXY.out.2] at this; exact this))⟩, HWW.out⟩
    · obtain rfl : k = n := by omega
      go_wp2
      go_ret
      exact ⟨⟨_, rfl, iff_of_true rfl (by unfold DatP; rw [HN.out]; exact HK.out)⟩, HWW.out⟩
end Go.Proofs.Ythdkmjbeemfbbaa
