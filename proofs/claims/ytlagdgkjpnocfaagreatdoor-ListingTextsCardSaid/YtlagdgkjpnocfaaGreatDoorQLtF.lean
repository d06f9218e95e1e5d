/-
  Listing (layer 6): Words of any text. Listing (layer 6): the document's Hex. Listing (layer 6): the document's Text.
-/
import Derived.Test.YtlagdgkjpnocfaaGreatDoorQLtD
import Derived.Test.YtlagdgkjpnocfaaGreatDoorQRefE
namespace Go.Proofs.YtlagdgkjpnocfaaGreatDoor
open Go.RowKit
set_option linter.unusedVariables false
set_option linter.unusedSimpArgs false
theorem qn_string (w : World) (s : List UInt8) : (Builtin.len_ #[9] 3 #[bts s]).run Tryz.prog w = .ok (.int .i64 (s.length : Int)) w := by simp [go_sem, ByteArray.size]
theorem qk_listing_parseWord (w : World) (vs : Array Value) : (callFunc 31 vs).run Tryz.prog w = .ok (.enter 31 vs) w := by simp [go_sem]
theorem qb_mul_int (w : World) (x y : Operand) (m n : Int) (h0 : -9223372036854775808 ≤ m * n) (h1 : m * n ≤ 9223372036854775807) : ((do eqGuard .mul 3 x y (.int .i64 m) (.int .i64 n); binOp .mul 3 (.int .i64 m) (.int .i64 n) : Sem Value)).run Tryz.prog w = .ok (.int .i64 (m * n)) w := by
  have h : IntKind.i64.wrap (m * n) = m * n := IntWalk.i64_in _ (by omega)
  simp [go_sem, h]
theorem qk_listing_wordLine (w : World) (vs : Array Value) : (callFunc 28 vs).run Tryz.prog w = .ok (.enter 28 vs) w := by simp [go_sem]
theorem qv_s_uint32_1 (w : World) (m0 : Int) : (Instr.buildSlice 35 1 #[(0, .int .u32 m0)]).run Tryz.prog w = .ok (.slice (some ⟨w.heap.size, 0, none⟩) 1 1) (w.alloc (.cells #[.int .u32 m0] 40)) := by simp [go_sem]
theorem info_U32s : (Tryz.prog.info? 40).map (fun i => (i.zero, i.size, i.bytes)) = some (some (.int .u32 0), 1, 4) := by kernel_rfl
def U32s (B : Nat) (w : World) (v : Value) (xs : List Nat) : Prop := w.ownsRow B 40 1 v xs.length (xs.map fun (x : Nat) => (.int .u32 (x : Int) : Value))
theorem U32s.nil (B : Nat) (w : World) : U32s B w (.slice none 0 0) [] := World.ownsRow_nil _ _ _ _
theorem U32s.fr {B : Nat} {w w' : World} {v : Value} {xs : List Nat} {F : Nat → Prop} (h : U32s B w v xs) (hf : Fr F w w') (hn : ∀ k, B ≤ k → ¬F k) : U32s B w' v xs := hf.owns h (fun k hk => hn k (World.ownsRow.lt h k hk).1)
theorem U32s.form {B : Nat} {w : World} {v : Value} {xs : List Nat} (h : U32s B w v xs) : ∃ a c, v = .slice a xs.length c ∧ ∀ (k : Nat) (x : Nat), xs[k]? = some x → ∃ g, a = some ⟨g, 0, none⟩ ∧ B ≤ g ∧ w.cell? ⟨g, k, none⟩ = some ((.int .u32 (x : Int) : Value)) := by
  have hc := h
  rcases h.2 with ⟨rfl, hn⟩ | ⟨g, cap, cur, rfl, hb, hg, hcap, _⟩
  · refine ⟨none, 0, by rw [hn], fun k x hk => ?_⟩
    have : xs = [] := List.eq_nil_of_length_eq_zero hn
    subst this
    simp at hk
  · refine ⟨_, cap, rfl, fun k x hk => ⟨g, rfl, hb, ?_⟩⟩
    have := World.ownsRow.cells hc (g := g) rfl k ((.int .u32 (x : Int) : Value)) (by rw [List.getElem?_map, hk]; rfl)
    rw [Addr.add_lit] at this
    simpa using this
theorem U32s.app {w W : World} {v : Value} {xs : List Nat} (x : Nat) (ty : TypeId) (h : U32s w.heap.size W v xs) (hf : Fr (fun _ => False) w W) (hl : xs.length ≤ 1000000) : ∃ v' w', (Builtin.append_ #[35, 35] ty #[v, .slice (some ⟨W.heap.size, 0, none⟩) 1 1]).run Tryz.prog (W.alloc (.cells #[(.int .u32 (x : Int) : Value)] 40)) = .ok v' w' ∧ (U32s w.heap.size w' v' (xs ++ [x]) ∧ Fr (fun _ => False) w w') := by
  obtain ⟨i0, hi, hz0, hz1, hz2⟩ := info_partsB info_U32s
  have ha := fr_al (Fr.refl (fun _ => False) W) (.cells #[(.int .u32 (x : Int) : Value)] 40)
  have h0 : (W.alloc (.cells #[(.int .u32 (x : Int) : Value)] 40)).ownsRow w.heap.size 40 1 v xs.length (xs.map fun (x : Nat) => (.int .u32 (x : Int) : Value)) := ha.owns h (fun _ _ => id)
  obtain ⟨v', w', hr, h2, h3, h4⟩ := run_append_own (P := Tryz.prog) (W.alloc (.cells #[(.int .u32 (x : Int) : Value)] 40)) w.heap.size 35 ty 40 i0 (.int .u32 0) 1 4 Tryz.underlying35 hi hz0 hz1 hz2 rfl (by decide) v xs.length (xs.map fun (x : Nat) => (.int .u32 (x : Int) : Value)) h0 ⟨W.heap.size, 0, none⟩ 1 1 [(.int .u32 (x : Int) : Value)] rfl (fun j u hj => by
    match j, hj with
    | 0, hj =>
      simp at hj
      subst hj
      exact fcell W #[(.int .u32 (x : Int) : Value)] _ 0 _ rfl
    | j + 1, hj => simp at hj) (by simp [Value.oneCell']) (by unfold maxLen; omega) (by omega) (Nat.le_trans hf.size ha.size)
  refine ⟨v', w', hr, ?_, (fr_al hf _).trans' (Fr.of_by h3) (fun j hj e => ?_)⟩
  · unfold U32s
    rw [List.length_append, List.map_append]
    exact h2
  · have := (World.ownsRow.lt h0 j e).1
    omega
theorem cut_found {s sep : List UInt8} (hp : 0 < sep.length) (h : (Lib.cut s sep).2.2 = true) : s = (Lib.cut s sep).1 ++ sep ++ (Lib.cut s sep).2.1 ∧ (Lib.cut s sep).2.1.length < s.length := by
  unfold Lib.cut at h ⊢
  by_cases hi : 0 ≤ Lib.index s sep
  · rw [if_pos hi] at h ⊢
    have hr := Lib.index_room s sep hi
    rcases Lib.index_spec s sep with ⟨hn, _⟩ | ⟨i, he, hl, ho, _⟩
    · omega
    · simp only [he, Int.toNat_natCast]
      rw [he] at hr
      have ht := Lib.occAt_iff_take s sep i (by omega)
      rw [ho] at ht
      have ht := eq_of_beq ht.symm
      refine ⟨?_, by rw [List.length_drop]; omega⟩
      conv => lhs; rw [← List.take_append_drop i s]
      rw [List.append_assoc]
      congr 1
      conv => lhs; rw [← List.take_append_drop sep.length (s.drop i)]
      rw [ht, List.drop_drop]
  · rw [if_neg hi] at h
    cases h
/-- The words of a text, if it is the text of words. -/
def wdsR (r : List UInt8) (ws : List Nat) : Option (List Nat) :=
  if r = [] then some ws
  else if h : (Lib.cut r [10]).2.2 = true then
    if (pwR (Lib.cut r [10]).1).2 = false ∨ ws.length = 40000 ∨ (Lib.cut r [10]).1 ++ [10] ≠ wlT (4 * ws.length) (pwR (Lib.cut r [10]).1).1 then none
    else wdsR (Lib.cut r [10]).2.1 (ws ++ [(pwR (Lib.cut r [10]).1).1])
  else none
termination_by r.length
decreasing_by exact (cut_found (by decide) h).2
theorem wds_nil (ws : List Nat) : wdsR [] ws = some ws := by rw [wdsR, if_pos rfl]
theorem wds_cut {r : List UInt8} {ws : List Nat} (hr : r ≠ []) (h : (Lib.cut r [10]).2.2 = false) : wdsR r ws = none := by
  rw [wdsR, if_neg hr, dif_neg (by rw [h]; decide)]
theorem wds_bad {r : List UInt8} {ws : List Nat} (hr : r ≠ []) (h : (Lib.cut r [10]).2.2 = true) (hb : (pwR (Lib.cut r [10]).1).2 = false ∨ ws.length = 40000 ∨ (Lib.cut r [10]).1 ++ [10] ≠ wlT (4 * ws.length) (pwR (Lib.cut r [10]).1).1) : wdsR r ws = none := by
  rw [wdsR, if_neg hr, dif_pos h, if_pos hb]
theorem wds_more {r : List UInt8} {ws : List Nat} (hr : r ≠ []) (h : (Lib.cut r [10]).2.2 = true) (h1 : (pwR (Lib.cut r [10]).1).2 = true) (h2 : ws.length ≠ 40000) (h3 : (Lib.cut r [10]).1 ++ [10] = wlT (4 * ws.length) (pwR (Lib.cut r [10]).1).1) : wdsR r ws = wdsR (Lib.cut r [10]).2.1 (ws ++ [(pwR (Lib.cut r [10]).1).1]) := by
  rw [wdsR, if_neg hr, dif_pos h, if_neg (by rw [h1]; simp [h2, h3])]
theorem pwR_lt (s : List UInt8) : (pwR s).1 ≤ 4294967295 := by
  unfold pwR
  simp only
  split
  · exact puT_lt _
  · split
    · split
      · have := encW_in
        rename_i i _ _
        have := this i.op i.rd i.r1 i.r2 i.imm
        simp only
        omega
      · exact Nat.zero_le _
    · exact Nat.zero_le _
theorem txT_app (l : List Nat) (x : Nat) : ∀ k, k ≤ l.length → txT (l ++ [x]) k = txT l k
  | 0, _ => rfl
  | k + 1, h => by
    show txT (l ++ [x]) k ++ wlT (4 * k) ((l ++ [x]).getD k 0) = txT l k ++ wlT (4 * k) (l.getD k 0)
    rw [txT_app l x k (by omega)]
    simp [List.getD_eq_getElem?_getD, List.getElem?_append_left (show k < l.length by omega)]
theorem txT_snoc (l : List Nat) (x : Nat) : txT (l ++ [x]) (l ++ [x]).length = txT l l.length ++ wlT (4 * l.length) x := by
  rw [List.length_append, List.length_singleton]
  show txT (l ++ [x]) l.length ++ wlT (4 * l.length) ((l ++ [x]).getD l.length 0) = _
  rw [txT_app l x _ (Nat.le_refl _)]
  simp [List.getD_eq_getElem?_getD]
def WdsP (s : List UInt8) (w : World) (e : Ending) (w' : World) : Prop := (match wdsR s [] with
    | none => e = .returned (.tuple #[.slice none 0 0, .int .i64 3])
    | some ws => ∃ v, e = .returned (.tuple #[v, .int .i64 0]) ∧ U32s w.heap.size w' v ws ∧ ws.length ≤ 40000 ∧ txT ws ws.length = s ∧ ∀ k, k < ws.length → ws.getD k 0 < 4294967296) ∧ Fr (fun _ => False) w w'
set_option maxRecDepth 100000 in
theorem t_words (s : List UInt8) (hs : s.length ≤ 1000000) (w : World) (he : ErW w) (hm : MlW w) (ht : TabW w) (hd : DbW w) : Calls Tryz.prog 15 #[bts s] w (WdsP s w) := by
  refine calls_tw Tryz.func15 rfl rfl (Nat.le_of_ble_eq_true rfl) ?_
  refine TW.sreg ?_
  refine WL.op rfl rfl rfl (Go.Proofs.YtlagdgkjpnocfaaGreatDoor.W.quiet_assign rfl rfl) ?_
  refine WL.op rfl rfl rfl (Go.Proofs.YtlagdgkjpnocfaaGreatDoor.W.quiet_assign rfl rfl) ?_
  refine WL.nil ?_
  refine TW.seq ?_
  refine TW.sreg ?_
  refine WL.op rfl rfl rfl (Go.Proofs.YtlagdgkjpnocfaaGreatDoor.W.quiet_move rfl rfl) ?_
  refine O.len rfl rfl rfl rfl rfl (qn_string _ _) ?_
  refine WL.op rfl rfl rfl (Go.Proofs.YtlagdgkjpnocfaaGreatDoor.W.quiet_bin rfl rfl rfl (fun W => qb_gtr_int W _ _ _ _)) ?_
  refine O.split (fun hb => by exfalso; revert hb; first | (simp; done) | (simp; omega)) (fun hb => ?_)
  refine WL.nil ?_
  refine TW.cond rfl (fun hb => by cases hb) (fun _ => ?_)
  refine TW.skip ?_
  refine TW.sreg ?_
  refine WL.op rfl rfl rfl (Go.Proofs.YtlagdgkjpnocfaaGreatDoor.W.quiet_assign rfl rfl) ?_
  refine WL.nil ?_
  refine TW.seq ?_
  refine TW.block ?_
  refine O.loopG (n := s.length) (fun a _ => match a.tmps.getD 0 undef with | .string b => s.length - b.size | _ => 0) (fun j a W => ∃ (r : List UInt8) (ws : List Nat) (v : Value), Kn Tryz.f15.ntmps [(0, bts r), (4, v)] a ∧ j = s.length - r.length ∧ r.length ≤ s.length ∧ Fr (fun _ => False) w W ∧ U32s w.heap.size W v ws ∧ ws.length ≤ 40000 ∧ wdsR s [] = wdsR r ws ∧ txT ws ws.length ++ r = s ∧ ∀ k, k < ws.length → ws.getD k 0 < 4294967296) (fun j a W h => by obtain ⟨r, ws, v, k, hj, _⟩ := h; have h0 := k.has 0 (bts r) rfl; simp [Array.getD_eq_getD_getElem?, h0, ByteArray.size]; omega) 0 (Nat.zero_le _) (fun a k => ⟨s, [], .slice none 0 0, (by (repeat (refine Kn.cons k rfl ?_)); exact k.base), by omega, Nat.le_refl _, Fr.refl _ _, U32s.nil _ _, by simp, rfl, rfl, fun k hk => by simp at hk⟩) ?_
  rintro j a wl hj ⟨r, ws, v, k, hjr, hrl, hF, hU, hwl, hwd, htx, hlt⟩
  refine TW.app (s := [(0, bts r), (4, v)]) ?_ k
  refine TW.seq ?_
  refine TW.sreg ?_
  refine WL.op rfl rfl rfl (Go.Proofs.YtlagdgkjpnocfaaGreatDoor.W.quiet_move rfl rfl) ?_
  refine WL.op rfl rfl rfl (Go.Proofs.YtlagdgkjpnocfaaGreatDoor.W.quiet_bin rfl rfl rfl (fun W => bn_nes W _ _ _ _)) ?_
  refine O.split (fun hne => ?_) (fun hne => ?_)
  · skip
    have hr0 : r ≠ [] := by simpa using hne
    obtain ⟨cl1, cl2⟩ := cut_len r [10]
    have hcut0 := @cut_found r [10] (by decide)
    refine WL.nil ?_
    refine TW.cond rfl (fun _ => ?_) (fun hb => by cases hb)
    refine TW.skip ?_
    refine TW.block ?_
    refine TW.sreg ?_
    refine WL.op rfl rfl rfl (Go.Proofs.YtlagdgkjpnocfaaGreatDoor.W.quiet_move rfl rfl) ?_
    refine WL.call (hr := t_cut r [10] (by omega) (by decide) wl (hm.fr hF id)) rfl rfl rfl rfl rfl (fun W => qk_strings_Cut W _) ?_
    rintro e w1 ⟨rfl, f1⟩
    refine ⟨_, rfl, ?_⟩
    obtain ⟨⟨c1, c2, c3⟩, hcc⟩ : ∃ c, Lib.cut r [10] = c := ⟨_, rfl⟩
    rw [hcc] at cl1 cl2 hcut0 ⊢
    simp only at cl1 cl2 hcut0 ⊢
    refine WL.op rfl rfl rfl (Go.Proofs.YtlagdgkjpnocfaaGreatDoor.W.quiet_move rfl rfl) ?_
    refine O.ext rfl rfl rfl rfl rfl rfl ?_
    refine O.ext rfl rfl rfl rfl rfl rfl ?_
    refine O.ext rfl rfl rfl rfl rfl rfl ?_
    refine WL.op rfl rfl rfl (Go.Proofs.YtlagdgkjpnocfaaGreatDoor.W.quiet_assign rfl rfl) ?_
    refine WL.op rfl rfl rfl (Go.Proofs.YtlagdgkjpnocfaaGreatDoor.W.quiet_assign rfl rfl) ?_
    refine WL.op rfl rfl rfl (Go.Proofs.YtlagdgkjpnocfaaGreatDoor.W.quiet_assign rfl rfl) ?_
    refine WL.nil ?_
    refine TW.sreg ?_
    refine WL.op rfl rfl rfl (Go.Proofs.YtlagdgkjpnocfaaGreatDoor.W.quiet_move rfl rfl) ?_
    refine WL.call (hr := t_pword c1 (by omega) w1 (he.fr (hF.trans f1) id id) (hm.fr (hF.trans f1) id)) rfl rfl rfl rfl rfl (fun W => qk_listing_parseWord W _) ?_
    rintro e w2 ⟨rfl, f2⟩
    refine ⟨_, rfl, ?_⟩
    have hplt := pwR_lt c1
    obtain ⟨⟨pw, pb⟩, hpw2⟩ : ∃ c, pwR c1 = c := ⟨_, rfl⟩
    rw [hpw2] at hplt ⊢
    simp only at hplt ⊢
    refine WL.op rfl rfl rfl (Go.Proofs.YtlagdgkjpnocfaaGreatDoor.W.quiet_move rfl rfl) ?_
    refine O.ext rfl rfl rfl rfl rfl rfl ?_
    refine O.ext rfl rfl rfl rfl rfl rfl ?_
    refine WL.op rfl rfl rfl (Go.Proofs.YtlagdgkjpnocfaaGreatDoor.W.quiet_assign rfl rfl) ?_
    refine WL.op rfl rfl rfl (Go.Proofs.YtlagdgkjpnocfaaGreatDoor.W.quiet_assign rfl rfl) ?_
    refine WL.nil ?_
    refine TW.seq ?_
    refine TW.sreg ?_
    refine WL.op rfl rfl rfl (Go.Proofs.YtlagdgkjpnocfaaGreatDoor.W.quiet_move rfl rfl) ?_
    refine WL.op rfl rfl rfl (Go.Proofs.YtlagdgkjpnocfaaGreatDoor.W.quiet_not rfl rfl) ?_
    refine O.split (fun hb1 => ?_) (fun hb1 => ?_)
    · skip
      have hc3 : c3 = false := by simpa using hb1
      refine WL.op rfl rfl rfl (Go.Proofs.YtlagdgkjpnocfaaGreatDoor.W.quiet_move rfl rfl) ?_
      refine WL.skip rfl rfl rfl ?_
      refine WL.skip rfl rfl rfl ?_
      refine WL.op rfl rfl rfl (Go.Proofs.YtlagdgkjpnocfaaGreatDoor.W.quiet_pick rfl rfl rfl) ?_
      refine WL.op rfl rfl rfl (Go.Proofs.YtlagdgkjpnocfaaGreatDoor.W.quiet_move rfl rfl) ?_
      refine WL.skip rfl rfl rfl ?_
      refine WL.skip rfl rfl rfl ?_
      refine WL.skip rfl rfl rfl ?_
      refine WL.op rfl rfl rfl (Go.Proofs.YtlagdgkjpnocfaaGreatDoor.W.quiet_pick rfl rfl rfl) ?_
      refine WL.op rfl rfl rfl (Go.Proofs.YtlagdgkjpnocfaaGreatDoor.W.quiet_move rfl rfl) ?_
      refine WL.skip rfl rfl rfl ?_
      refine WL.skip rfl rfl rfl ?_
      refine WL.skip rfl rfl rfl ?_
      refine WL.skip rfl rfl rfl ?_
      refine WL.skip rfl rfl rfl ?_
      refine WL.skip rfl rfl rfl ?_
      refine WL.skip rfl rfl rfl ?_
      refine WL.skip rfl rfl rfl ?_
      refine WL.op rfl rfl rfl (Go.Proofs.YtlagdgkjpnocfaaGreatDoor.W.quiet_pick rfl rfl rfl) ?_
      refine WL.nil ?_
      refine TW.cond rfl (fun _ => ?_) (fun hb => by cases hb)
      refine TW.sreg ?_
      refine WL.op rfl rfl rfl (Go.Proofs.YtlagdgkjpnocfaaGreatDoor.W.quiet_assign rfl rfl) ?_
      refine WL.op rfl rfl rfl (Go.Proofs.YtlagdgkjpnocfaaGreatDoor.W.quiet_assign rfl rfl) ?_
      refine WL.nil ?_
      refine TW.rt ?_
      refine Xw.thn (by simp) ?_
      refine Xw.rblk ?_
      refine Xw.thn (by simp) ?_
      refine Xw.rblk ?_
      refine Xw.thn (by simp) ?_
      refine O.ret2 rfl rfl rfl ?_
      refine ⟨?_, hF.trans (f1.trans f2)⟩
      rw [hwd, wds_cut hr0 (by rw [hcc]; exact hc3)]
    · skip
      have hc3 : c3 = true := by simpa using hb1
      have hcut := hcut0 hc3
      subst hc3
      refine WL.op rfl rfl rfl (Go.Proofs.YtlagdgkjpnocfaaGreatDoor.W.quiet_move rfl rfl) ?_
      refine WL.op rfl rfl rfl (Go.Proofs.YtlagdgkjpnocfaaGreatDoor.W.quiet_move rfl rfl) ?_
      refine WL.op rfl rfl rfl (Go.Proofs.YtlagdgkjpnocfaaGreatDoor.W.quiet_not rfl rfl) ?_
      refine O.split (fun hb2 => ?_) (fun hb2 => ?_)
      · skip
        have hpb : pb = false := by simpa using hb2
        refine WL.op rfl rfl rfl (Go.Proofs.YtlagdgkjpnocfaaGreatDoor.W.quiet_pick rfl rfl rfl) ?_
        refine WL.op rfl rfl rfl (Go.Proofs.YtlagdgkjpnocfaaGreatDoor.W.quiet_move rfl rfl) ?_
        refine WL.skip rfl rfl rfl ?_
        refine WL.skip rfl rfl rfl ?_
        refine WL.skip rfl rfl rfl ?_
        refine WL.op rfl rfl rfl (Go.Proofs.YtlagdgkjpnocfaaGreatDoor.W.quiet_pick rfl rfl rfl) ?_
        refine WL.op rfl rfl rfl (Go.Proofs.YtlagdgkjpnocfaaGreatDoor.W.quiet_move rfl rfl) ?_
        refine WL.skip rfl rfl rfl ?_
        refine WL.skip rfl rfl rfl ?_
        refine WL.skip rfl rfl rfl ?_
        refine WL.skip rfl rfl rfl ?_
        refine WL.skip rfl rfl rfl ?_
        refine WL.skip rfl rfl rfl ?_
        refine WL.skip rfl rfl rfl ?_
        refine WL.skip rfl rfl rfl ?_
        refine WL.op rfl rfl rfl (Go.Proofs.YtlagdgkjpnocfaaGreatDoor.W.quiet_pick rfl rfl rfl) ?_
        refine WL.nil ?_
        refine TW.cond rfl (fun _ => ?_) (fun hb => by cases hb)
        refine TW.sreg ?_
        refine WL.op rfl rfl rfl (Go.Proofs.YtlagdgkjpnocfaaGreatDoor.W.quiet_assign rfl rfl) ?_
        refine WL.op rfl rfl rfl (Go.Proofs.YtlagdgkjpnocfaaGreatDoor.W.quiet_assign rfl rfl) ?_
        refine WL.nil ?_
        refine TW.rt ?_
        refine Xw.thn (by simp) ?_
        refine Xw.rblk ?_
        refine Xw.thn (by simp) ?_
        refine Xw.rblk ?_
        refine Xw.thn (by simp) ?_
        refine O.ret2 rfl rfl rfl ?_
        refine ⟨?_, hF.trans (f1.trans f2)⟩
        rw [hwd, wds_bad hr0 (by rw [hcc]) (.inl (by rw [hcc, hpw2]; exact hpb))]
      · skip
        have hpb : pb = true := by simpa using hb2
        subst hpb
        obtain ⟨a4, cp, rfl, _⟩ := hU.form
        refine WL.op rfl rfl rfl (Go.Proofs.YtlagdgkjpnocfaaGreatDoor.W.quiet_pick rfl rfl rfl) ?_
        refine WL.op rfl rfl rfl (Go.Proofs.YtlagdgkjpnocfaaGreatDoor.W.quiet_move rfl rfl) ?_
        refine WL.op rfl rfl rfl (Go.Proofs.YtlagdgkjpnocfaaGreatDoor.W.quiet_move rfl rfl) ?_
        refine O.len rfl rfl rfl rfl rfl (qn_s_uint32 _ _ _ _) ?_
        refine WL.op rfl rfl rfl (Go.Proofs.YtlagdgkjpnocfaaGreatDoor.W.quiet_bin rfl rfl rfl (fun W => qb_eql_int W _ _ _ _)) ?_
        refine O.split (fun hb3 => ?_) (fun hb3 => ?_)
        · skip
          have hlen : ws.length = 40000 := by have := eq_of_beq hb3; omega
          refine WL.op rfl rfl rfl (Go.Proofs.YtlagdgkjpnocfaaGreatDoor.W.quiet_pick rfl rfl rfl) ?_
          refine WL.op rfl rfl rfl (Go.Proofs.YtlagdgkjpnocfaaGreatDoor.W.quiet_move rfl rfl) ?_
          refine WL.skip rfl rfl rfl ?_
          refine WL.skip rfl rfl rfl ?_
          refine WL.skip rfl rfl rfl ?_
          refine WL.skip rfl rfl rfl ?_
          refine WL.skip rfl rfl rfl ?_
          refine WL.skip rfl rfl rfl ?_
          refine WL.skip rfl rfl rfl ?_
          refine WL.skip rfl rfl rfl ?_
          refine WL.op rfl rfl rfl (Go.Proofs.YtlagdgkjpnocfaaGreatDoor.W.quiet_pick rfl rfl rfl) ?_
          refine WL.nil ?_
          refine TW.cond rfl (fun _ => ?_) (fun hb => by cases hb)
          refine TW.sreg ?_
          refine WL.op rfl rfl rfl (Go.Proofs.YtlagdgkjpnocfaaGreatDoor.W.quiet_assign rfl rfl) ?_
          refine WL.op rfl rfl rfl (Go.Proofs.YtlagdgkjpnocfaaGreatDoor.W.quiet_assign rfl rfl) ?_
          refine WL.nil ?_
          refine TW.rt ?_
          refine Xw.thn (by simp) ?_
          refine Xw.rblk ?_
          refine Xw.thn (by simp) ?_
          refine Xw.rblk ?_
          refine Xw.thn (by simp) ?_
          refine O.ret2 rfl rfl rfl ?_
          refine ⟨?_, hF.trans (f1.trans f2)⟩
          rw [hwd, wds_bad hr0 (by rw [hcc]) (.inr (.inl hlen))]
        · skip
          have hlen : ws.length ≠ 40000 := fun e => by rw [e] at hb3; simp at hb3
          have ff := hF.trans (f1.trans f2)
          refine WL.op rfl rfl rfl (Go.Proofs.YtlagdgkjpnocfaaGreatDoor.W.quiet_pick rfl rfl rfl) ?_
          refine WL.op rfl rfl rfl (Go.Proofs.YtlagdgkjpnocfaaGreatDoor.W.quiet_move rfl rfl) ?_
          refine WL.op rfl rfl rfl (Go.Proofs.YtlagdgkjpnocfaaGreatDoor.W.quiet_move rfl rfl) ?_
          refine WL.op rfl rfl rfl (Go.Proofs.YtlagdgkjpnocfaaGreatDoor.W.quiet_bin rfl rfl rfl (fun W => bn_cat W _ _ c1 [10] (by simp only [List.length_cons, List.length_nil]; omega))) ?_
          refine WL.op rfl rfl rfl (Go.Proofs.YtlagdgkjpnocfaaGreatDoor.W.quiet_move rfl rfl) ?_
          refine O.len rfl rfl rfl rfl rfl (qn_s_uint32 _ _ _ _) ?_
          refine WL.op rfl rfl rfl (Go.Proofs.YtlagdgkjpnocfaaGreatDoor.W.quiet_bin rfl rfl rfl (fun W => (qb_mul_int W _ _ _ _ (by omega) (by omega)).trans (by rw [show (ws.length : Int) * 4 = ((4 * ws.length : Nat) : Int) by omega]))) ?_
          refine WL.op rfl rfl rfl (Go.Proofs.YtlagdgkjpnocfaaGreatDoor.W.quiet_move rfl rfl) ?_
          refine WL.call (hr := t_wline (4 * ws.length) pw (by omega) (by omega) w2 (ht.fr ff id) (ff.cell hd id)) rfl rfl rfl rfl rfl (fun W => qk_listing_wordLine W _) ?_
          rintro e w3 ⟨rfl, f3⟩
          refine ⟨_, rfl, ?_⟩
          refine WL.op rfl rfl rfl (Go.Proofs.YtlagdgkjpnocfaaGreatDoor.W.quiet_bin rfl rfl rfl (fun W => bn_nes W _ _ _ _)) ?_
          refine O.split (fun hb4 => ?_) (fun hb4 => ?_)
          · skip
            have hln : c1 ++ [10] ≠ wlT (4 * ws.length) pw := by simpa using hb4
            refine WL.op rfl rfl rfl (Go.Proofs.YtlagdgkjpnocfaaGreatDoor.W.quiet_pick rfl rfl rfl) ?_
            refine WL.nil ?_
            refine TW.cond rfl (fun _ => ?_) (fun hb => by cases hb)
            refine TW.sreg ?_
            refine WL.op rfl rfl rfl (Go.Proofs.YtlagdgkjpnocfaaGreatDoor.W.quiet_assign rfl rfl) ?_
            refine WL.op rfl rfl rfl (Go.Proofs.YtlagdgkjpnocfaaGreatDoor.W.quiet_assign rfl rfl) ?_
            refine WL.nil ?_
            refine TW.rt ?_
            refine Xw.thn (by simp) ?_
            refine Xw.rblk ?_
            refine Xw.thn (by simp) ?_
            refine Xw.rblk ?_
            refine Xw.thn (by simp) ?_
            refine O.ret2 rfl rfl rfl ?_
            refine ⟨?_, ff.trans f3⟩
            rw [hwd, wds_bad hr0 (by rw [hcc]) (.inr (.inr (by rw [hcc, hpw2]; exact hln)))]
          · skip
            have hln : c1 ++ [10] = wlT (4 * ws.length) pw := by simpa using hb4
            refine WL.op rfl rfl rfl (Go.Proofs.YtlagdgkjpnocfaaGreatDoor.W.quiet_pick rfl rfl rfl) ?_
            refine WL.nil ?_
            refine TW.cond rfl (fun hb => by cases hb) (fun _ => ?_)
            refine TW.skip ?_
            refine TW.reg ?_
            refine WL.op rfl rfl rfl (Go.Proofs.YtlagdgkjpnocfaaGreatDoor.W.quiet_move rfl rfl) ?_
            refine WL.op rfl rfl rfl (Go.Proofs.YtlagdgkjpnocfaaGreatDoor.W.quiet_move rfl rfl) ?_
            refine O.bsl rfl rfl rfl rfl rfl (qv_s_uint32_1 _ _) ?_
            refine WL.append rfl rfl rfl rfl rfl rfl (U32s.app pw _ (hU.fr (f1.trans (f2.trans f3)) (fun _ _ => id)) (ff.trans f3) (by omega)) ?_
            rintro v2 w4 ⟨hU2, hF2⟩
            -- world w4
            refine WL.op rfl rfl rfl (Go.Proofs.YtlagdgkjpnocfaaGreatDoor.W.quiet_move rfl rfl) ?_
            refine WL.op rfl rfl rfl (Go.Proofs.YtlagdgkjpnocfaaGreatDoor.W.quiet_assign rfl rfl) ?_
            refine WL.op rfl rfl rfl (Go.Proofs.YtlagdgkjpnocfaaGreatDoor.W.quiet_assign rfl rfl) ?_
            refine WL.end ?_
            refine Xw.nblk ?_
            refine Xw.any (fun a k => ?_)
            refine ⟨s.length - c2.length, by omega, by omega, c2, ws ++ [pw], v2, by (repeat (refine Kn.cons k rfl ?_)); exact k.base, rfl, by omega, hF2, hU2, by simp; omega, ?_, ?_, ?_⟩
            · rw [hwd]
              have q := wds_more (ws := ws) hr0 (by rw [hcc]) (by rw [hcc, hpw2]) hlen (by rw [hcc, hpw2]; exact hln)
              rw [hcc, hpw2] at q
              exact q
            · rw [txT_snoc, ← hln, ← htx, List.append_assoc]
              congr 1
              exact hcut.1.symm
            · intro k hk
              by_cases e : k < ws.length
              · rw [List.getD_eq_getElem?_getD, List.getElem?_append_left e, ← List.getD_eq_getElem?_getD]; exact hlt k e
              · have : k = ws.length := by simp at hk; omega
                subst this
                simp [List.getD_eq_getElem?_getD]; omega
  · skip
    refine WL.nil ?_
    refine TW.cond rfl (fun hb => by cases hb) (fun _ => ?_)
    refine TW.exit ?_
    refine Xw.thn (by simp) ?_
    refine Xw.thn (by simp) ?_
    refine Xw.hit ?_
    refine Xw.nrm ?_
    refine TW.sreg ?_
    refine WL.op rfl rfl rfl (Go.Proofs.YtlagdgkjpnocfaaGreatDoor.W.quiet_move rfl rfl) ?_
    refine WL.op rfl rfl rfl (Go.Proofs.YtlagdgkjpnocfaaGreatDoor.W.quiet_assign rfl rfl) ?_
    refine WL.op rfl rfl rfl (Go.Proofs.YtlagdgkjpnocfaaGreatDoor.W.quiet_assign rfl rfl) ?_
    refine WL.nil ?_
    refine TW.rt ?_
    refine O.ret2 rfl rfl rfl ?_
    have hr0 : r = [] := by simpa using hne
    subst hr0
    rw [wds_nil] at hwd
    refine ⟨?_, hF⟩
    rw [hwd]
    exact ⟨v, rfl, hU, hwl, by rw [List.append_nil] at htx; exact htx, hlt⟩
theorem qc_uint32_int (w : World) (m : Int) (h0 : -9223372036854775808 ≤ m) (h1 : m ≤ 9223372036854775807) : (convert 40 3 (.int .u32 m)).run Tryz.prog w = .ok (.int .i64 m) w := by
  have h : IntKind.i64.wrap m = m := IntWalk.i64_in _ (by omega)
  simp [go_sem, h]
theorem qb_quo_int (w : World) (x y : Operand) (m n : Int) (hn : n ≠ 0) (h0 : -9223372036854775808 ≤ m.tdiv n) (h1 : m.tdiv n ≤ 9223372036854775807) : ((do eqGuard .quo 3 x y (.int .i64 m) (.int .i64 n); binOp .quo 3 (.int .i64 m) (.int .i64 n) : Sem Value)).run Tryz.prog w = .ok (.int .i64 (m.tdiv n)) w := by
  have h : IntKind.i64.wrap (m.tdiv n) = m.tdiv n := IntWalk.i64_in _ (by omega)
  simp [go_sem, h, hn]
/-- So many digits of a number to base 16, from the last one. -/
def hxL (u : Nat) : Nat → List UInt8
  | 0 => []
  | k + 1 => dig (u / 16 ^ k % 16) :: hxL u k
theorem hxL_len (u : Nat) : ∀ k, (hxL u k).length = k
  | 0 => rfl
  | k + 1 => by simp [hxL, hxL_len u k]
theorem hxL_zero (u : Nat) : ∀ k, u < 16 ^ k → ∀ n, k ≤ n → hxL u n = List.replicate (n - k) 48 ++ hxL u k
  | k, h, n, hn => by
    obtain ⟨d, rfl⟩ := Nat.exists_eq_add_of_le hn
    clear hn
    induction d with
    | zero => simp
    | succ d ih =>
      rw [show k + (d + 1) - k = d + 1 by omega, show k + (d + 1) = (k + d) + 1 by omega]
      show dig (u / 16 ^ (k + d) % 16) :: hxL u (k + d) = _
      have : u / 16 ^ (k + d) = 0 := Nat.div_eq_of_lt (Nat.lt_of_lt_of_le h (Nat.pow_le_pow_right (by decide) (by omega)))
      rw [this, ih, show k + d - k = d by omega, List.replicate_succ]
      rfl
theorem hxL_hexD (u : Nat) : ∀ k, 0 < k → u < 16 ^ k → ∃ j, 0 < j ∧ j ≤ k ∧ hexD u = hxL u j ∧ u < 16 ^ j
  | 0, h, _ => absurd h (by omega)
  | k + 1, _, h => by
    by_cases hu : u < 16
    · exact ⟨1, by decide, by omega, by rw [hexD_lo hu]; simp [hxL, Nat.mod_eq_of_lt hu], by omega⟩
    · have hk : 0 < k := by
        rcases Nat.eq_zero_or_pos k with rfl | h2
        · simp at h; omega
        · exact h2
      obtain ⟨j, j0, jk, e, hj⟩ := hxL_hexD (u / 16) k hk (by rw [Nat.pow_succ] at h; omega)
      refine ⟨j + 1, by omega, by omega, ?_, by rw [Nat.pow_succ]; omega⟩
      rw [hexD_hi (by omega), e]
      have key : ∀ j, hxL (u / 16) j ++ [dig (u % 16)] = hxL u (j + 1) := by
        intro j
        induction j with
        | zero => simp [hxL]
        | succ j ih =>
          show dig (u / 16 / 16 ^ j % 16) :: (hxL (u / 16) j ++ [dig (u % 16)]) = dig (u / 16 ^ (j + 1) % 16) :: hxL u (j + 1)
          rw [ih, Nat.div_div_eq_div_mul, Nat.pow_succ, Nat.mul_comm 16]
      exact key j
theorem repL (n : Nat) : Lib.repeatL [48] n = List.replicate n 48 := by
  induction n with
  | zero => rfl
  | succ n ih => simp [Lib.repeatL, ih, List.replicate_succ]
theorem hex_hxL {u : Nat} (hu : u < 4294967296) : hexT u = hxL u 8 := by
  obtain ⟨j, j0, j8, e, hj⟩ := hxL_hexD u 8 (by decide) (by omega)
  unfold hexT
  rw [e, hxL_len, repL, hxL_zero u j hj 8 j8]
theorem hdig_of : ∀ r : Fin 16, (⟨#[48, 49, 50, 51, 52, 53, 54, 55, 56, 57, 97, 98, 99, 100, 101, 102]⟩ : ByteArray).extract r.1 (r.1 + 1) = ⟨#[dig r.1]⟩ := by decide
theorem slice_hex (r : Nat) (h : r < 16) (w : World) : (Instr.slice 9 (.string ⟨#[48, 49, 50, 51, 52, 53, 54, 55, 56, 57, 97, 98, 99, 100, 101, 102]⟩) (some (.int .i64 (r : Int))) (some (.int .i64 ((r : Int) + 1))) none).run Tryz.prog w = .ok (bts [dig r]) w := by
  rw [run_slice_string w 9 _ _ _ _ _ Tryz.underlying9 (by omega) (by omega) (by show (r : Int) + 1 ≤ 16; omega)]
  rw [show (r : Int).toNat = r by omega, show ((r : Int) + 1).toNat = r + 1 by omega, hdig_of ⟨r, h⟩]
theorem tmod16 (m : Nat) : (m : Int).tmod 16 = ((m % 16 : Nat) : Int) := by rw [Int.tmod_eq_emod_of_nonneg (by omega)]; omega
theorem tdiv16 (m : Nat) : (m : Int).tdiv 16 = ((m / 16 : Nat) : Int) := by rw [Int.tdiv_eq_ediv_of_nonneg (by omega)]; omega
theorem hx_next (u j : Nat) : hxL (u % 16 ^ (j + 1)) (j + 1) = dig (u / 16 ^ j % 16) :: hxL (u % 16 ^ j) j := by
  have hp : 0 < 16 ^ j := Nat.pow_pos (by decide)
  have h1 : u % 16 ^ (j + 1) / 16 ^ j % 16 = u / 16 ^ j % 16 := by
    rw [Nat.pow_succ, Nat.mod_mul_right_div_self, Nat.mod_mod]
  have key : ∀ (n a b : Nat), a % 16 ^ n = b % 16 ^ n → hxL a n = hxL b n := by
    intro n
    induction n with
    | zero => intros; rfl
    | succ n ih =>
      intro a b h
      have e1 : a / 16 ^ n % 16 = b / 16 ^ n % 16 := by
        rw [Nat.pow_succ] at h
        rw [← Nat.mod_mul_right_div_self, ← Nat.mod_mul_right_div_self, h]
      have e2 : a % 16 ^ n = b % 16 ^ n := by
        have := congrArg (· % 16 ^ n) h
        simp only [Nat.pow_succ, Nat.mod_mul_right_mod] at this
        exact this
      show dig (a / 16 ^ n % 16) :: hxL a n = dig (b / 16 ^ n % 16) :: hxL b n
      rw [e1, ih a b e2]
  show dig (u % 16 ^ (j + 1) / 16 ^ j % 16) :: hxL (u % 16 ^ (j + 1)) j = _
  rw [h1]
  congr 1
  refine key j _ _ ?_
  rw [Nat.pow_succ, Nat.mod_mul_right_mod, Nat.mod_mod]
set_option maxRecDepth 100000 in
theorem t_rhex (u : Nat) (hu : u < 4294967296) (w : World) : Calls Tryz.prog 33 #[.int .u32 (u : Int)] w fun e w' => e = .returned (bts (hexT u)) ∧ Fr (fun _ => False) w w' := by
  refine calls_tw Tryz.func33 rfl rfl (Nat.le_of_ble_eq_true rfl) ?_
  refine TW.sreg ?_
  refine WL.op rfl rfl rfl (Go.Proofs.YtlagdgkjpnocfaaGreatDoor.W.quiet_assign rfl rfl) ?_
  refine WL.nil ?_
  refine TW.sreg ?_
  refine WL.op rfl rfl rfl (Go.Proofs.YtlagdgkjpnocfaaGreatDoor.W.quiet_assign rfl rfl) ?_
  refine WL.nil ?_
  refine TW.sreg ?_
  refine WL.op rfl rfl rfl (Go.Proofs.YtlagdgkjpnocfaaGreatDoor.W.quiet_assign rfl rfl) ?_
  refine WL.nil ?_
  refine TW.sreg ?_
  refine WL.op rfl rfl rfl (Go.Proofs.YtlagdgkjpnocfaaGreatDoor.W.quiet_move rfl rfl) ?_
  refine O.cv rfl rfl rfl rfl rfl (qc_uint32_int _ _ (by omega) (by omega)) ?_
  refine WL.op rfl rfl rfl (Go.Proofs.YtlagdgkjpnocfaaGreatDoor.W.quiet_assign rfl rfl) ?_
  refine WL.nil ?_
  refine TW.seq ?_
  refine TW.sreg ?_
  refine WL.op rfl rfl rfl (Go.Proofs.YtlagdgkjpnocfaaGreatDoor.W.quiet_assign rfl rfl) ?_
  refine WL.nil ?_
  refine TW.block ?_
  refine O.loopG (n := 8) (fun a _ => (intOf (a.tmps.getD 6 undef)).toNat) (fun j a W => Kn Tryz.f33.ntmps [(3, .string ⟨#[48, 49, 50, 51, 52, 53, 54, 55, 56, 57, 97, 98, 99, 100, 101, 102]⟩), (4, bts (hxL (u % 16 ^ j) j)), (5, .int .i64 ((u / 16 ^ j : Nat) : Int)), (6, .int .i64 (j : Int))] a ∧ w = W) (fun j a W h => O.slotv h.1 rfl) 0 (Nat.zero_le _) (fun a k => ⟨by simp only [Nat.pow_zero, Nat.div_one]; exact (by (repeat (refine Kn.cons k rfl ?_)); exact k.base), rfl⟩) ?_
  rintro j a wl hj ⟨k, rfl⟩
  refine TW.app (s := [(3, .string ⟨#[48, 49, 50, 51, 52, 53, 54, 55, 56, 57, 97, 98, 99, 100, 101, 102]⟩), (4, bts (hxL (u % 16 ^ j) j)), (5, .int .i64 ((u / 16 ^ j : Nat) : Int)), (6, .int .i64 (j : Int))]) ?_ k
  refine TW.seq ?_
  refine TW.sreg ?_
  refine WL.op rfl rfl rfl (Go.Proofs.YtlagdgkjpnocfaaGreatDoor.W.quiet_move rfl rfl) ?_
  refine WL.op rfl rfl rfl (Go.Proofs.YtlagdgkjpnocfaaGreatDoor.W.quiet_bin rfl rfl rfl (fun W => qb_lss_int W _ _ _ _)) ?_
  refine O.split (fun hb => ?_) (fun hb => ?_)
  · skip
    have hj8 : j < 8 := by have := of_decide_eq_true hb; omega
    have hp : 0 < 16 ^ j := Nat.pow_pos (by decide)
    have hdiv : u / 16 ^ (j + 1) = u / 16 ^ j / 16 := by rw [Nat.pow_succ, Nat.div_div_eq_div_mul]
    have hnext : hxL (u % 16 ^ (j + 1)) (j + 1) = dig (u / 16 ^ j % 16) :: hxL (u % 16 ^ j) j := hx_next u j
    have hl := hxL_len (u % 16 ^ j) j
    have hlt : u / 16 ^ j ≤ u := Nat.div_le_self _ _
    generalize u / 16 ^ j = q at *
    generalize hxL (u % 16 ^ j) j = t at *
    refine WL.nil ?_
    refine TW.cond rfl (fun _ => ?_) (fun hb => by cases hb)
    refine TW.skip ?_
    refine TW.seq ?_
    refine TW.block ?_
    refine TW.sreg ?_
    refine WL.op rfl rfl rfl (Go.Proofs.YtlagdgkjpnocfaaGreatDoor.W.quiet_move rfl rfl) ?_
    refine WL.op rfl rfl rfl (Go.Proofs.YtlagdgkjpnocfaaGreatDoor.W.quiet_move rfl rfl) ?_
    refine WL.op rfl rfl rfl (Go.Proofs.YtlagdgkjpnocfaaGreatDoor.W.quiet_bin rfl rfl rfl (fun W => (qb_rem_int W _ _ _ _ (by decide) (by rw [tmod16]; omega) (by rw [tmod16]; omega)).trans (by rw [tmod16]))) ?_
    refine WL.op rfl rfl rfl (Go.Proofs.YtlagdgkjpnocfaaGreatDoor.W.quiet_move rfl rfl) ?_
    refine WL.op rfl rfl rfl (Go.Proofs.YtlagdgkjpnocfaaGreatDoor.W.quiet_bin rfl rfl rfl (fun W => (qb_rem_int W _ _ _ _ (by decide) (by rw [tmod16]; omega) (by rw [tmod16]; omega)).trans (by rw [tmod16]))) ?_
    refine WL.op rfl rfl rfl (Go.Proofs.YtlagdgkjpnocfaaGreatDoor.W.quiet_bin rfl rfl rfl (fun W => qb_add_int W _ _ _ _ (by omega) (by omega))) ?_
    refine O.sl12 rfl rfl rfl rfl rfl rfl rfl (slice_hex (q % 16) (Nat.mod_lt _ (by decide)) _) ?_
    refine WL.op rfl rfl rfl (Go.Proofs.YtlagdgkjpnocfaaGreatDoor.W.quiet_move rfl rfl) ?_
    refine WL.op rfl rfl rfl (Go.Proofs.YtlagdgkjpnocfaaGreatDoor.W.quiet_bin rfl rfl rfl (fun W => bn_cat W _ _ [dig (q % 16)] t (by rw [hl]; simp; omega))) ?_
    refine WL.op rfl rfl rfl (Go.Proofs.YtlagdgkjpnocfaaGreatDoor.W.quiet_assign rfl rfl) ?_
    refine WL.nil ?_
    refine TW.reg ?_
    refine WL.op rfl rfl rfl (Go.Proofs.YtlagdgkjpnocfaaGreatDoor.W.quiet_move rfl rfl) ?_
    refine WL.op rfl rfl rfl (Go.Proofs.YtlagdgkjpnocfaaGreatDoor.W.quiet_bin rfl rfl rfl (fun W => (qb_quo_int W _ _ _ _ (by decide) (by rw [tdiv16]; omega) (by rw [tdiv16]; omega)).trans (by rw [tdiv16]))) ?_
    refine WL.op rfl rfl rfl (Go.Proofs.YtlagdgkjpnocfaaGreatDoor.W.quiet_assign rfl rfl) ?_
    refine WL.end ?_
    refine Xw.nblk ?_
    refine Xw.nrm ?_
    refine TW.reg ?_
    refine WL.op rfl rfl rfl (Go.Proofs.YtlagdgkjpnocfaaGreatDoor.W.quiet_move rfl rfl) ?_
    refine WL.op rfl rfl rfl (Go.Proofs.YtlagdgkjpnocfaaGreatDoor.W.quiet_bin rfl rfl rfl (fun W => qb_add_int W _ _ _ _ (by omega) (by omega))) ?_
    refine WL.op rfl rfl rfl (Go.Proofs.YtlagdgkjpnocfaaGreatDoor.W.quiet_assign rfl rfl) ?_
    refine WL.end ?_
    refine Xw.any (fun a k => ?_)
    refine ⟨j + 1, by omega, by omega, ?_, rfl⟩
    rw [hnext, hdiv]
    repeat (refine Kn.cons k rfl ?_)
    exact k.base
  · skip
    refine WL.nil ?_
    refine TW.cond rfl (fun hb => by cases hb) (fun _ => ?_)
    refine TW.exit ?_
    refine Xw.thn (by simp) ?_
    refine Xw.thn (by simp) ?_
    refine Xw.hit ?_
    refine Xw.nrm ?_
    refine TW.sreg ?_
    refine WL.op rfl rfl rfl (Go.Proofs.YtlagdgkjpnocfaaGreatDoor.W.quiet_move rfl rfl) ?_
    refine WL.op rfl rfl rfl (Go.Proofs.YtlagdgkjpnocfaaGreatDoor.W.quiet_assign rfl rfl) ?_
    refine WL.nil ?_
    refine TW.rt ?_
    refine bodyw_ret rfl rfl ?_
    have hje : j = 8 := by have := of_decide_eq_false hb; omega
    subst hje
    exact ⟨by rw [hex_hxL hu, Nat.mod_eq_of_lt (show u < 16 ^ 8 by omega)], Fr.refl _ _⟩
theorem qi_s_uint32 (w : World) (b o n c j : Nat) (hj : j < n) : (Instr.indexAt 35 (.slice (some ⟨b, o, none⟩) n c) (.int .i64 (j : Int))).run Tryz.prog w = .ok (.pointer (some ⟨b, o + j, none⟩)) w := by
  have h : (j : Int) < (n : Int) := by omega
  simp [go_sem, h, hj]
theorem ql_uint32 (w : World) (m : Int) (d : Addr) (h : w.cell? d = some (.int .u32 m)) : (Instr.loadAt 40 (.pointer (some d))).run Tryz.prog w = .ok (.int .u32 m) w := by simp [go_sem, h]
theorem qk_rushlightref02_Decode (w : World) (vs : Array Value) : (callFunc 32 vs).run Tryz.prog w = .ok (.enter 32 vs) w := by simp [go_sem]
theorem qzR_rushlightref02_Inst (w : World) : ∃ w', (Instr.alloc 28 true (.tuple #[])).run Tryz.prog w = .ok (.pointer (some ⟨w.heap.size, 0, none⟩)) w' ∧ (Fr (fun _ => False) w w' ∧ Bx w' w.heap.size #[.int .i64 0, .int .i64 0, .int .i64 0, .int .i64 0, .int .i64 0] 28) := ⟨w.alloc (.cells #[.int .i64 0, .int .i64 0, .int .i64 0, .int .i64 0, .int .i64 0] 28), by simp [go_sem], fr_al (Fr.refl _ _) _, Bx.new _ _ _⟩
theorem qsA_rushlightref02_Inst (w : World) (g : Nat) (z0 z1 z2 z3 z4 : Value) (um0 : Int) (um1 : Int) (um2 : Int) (um3 : Int) (um4 : Int) (h : Bx w g #[z0, z1, z2, z3, z4] 28) : ∃ w', (Instr.storeAt 28 (.pointer (some ⟨g, 0, none⟩)) (.agg #[.int .i64 um0, .int .i64 um1, .int .i64 um2, .int .i64 um3, .int .i64 um4])).run Tryz.prog w = .ok () w' ∧ (Fr (fun q => q = g) w w' ∧ Bx w' g #[.int .i64 um0, .int .i64 um1, .int .i64 um2, .int .i64 um3, .int .i64 um4] 28) := by
  have c0 := h.cell (j := 0) rfl
  have e0 := h.free 0
  have c1 := h.cell (j := 1) rfl
  have e1 := h.free 1
  have c2 := h.cell (j := 2) rfl
  have e2 := h.free 2
  have c3 := h.cell (j := 3) rfl
  have e3 := h.free 3
  have c4 := h.cell (j := 4) rfl
  have e4 := h.free 4
  have H : ∀ k v W z, Bx W g z 28 → Bx (W.setCell ⟨g, k, none⟩ v) g (z.setIfInBounds k v) 28 := fun k v W z h => h.set k v
  refine ⟨_, by simp [go_sem, c0, e0, c1, e1, c2, e2, c3, e3, c4, e4]; rfl, ?_, ?_⟩
  · repeat first | exact Fr.refl _ _ | refine Fr.trans ?_ (Fr.setCell _ _ _ rfl)
  · exact H 4 _ _ _ (H 3 _ _ _ (H 2 _ _ _ (H 1 _ _ _ (H 0 _ _ _ (h)))))
theorem qk_rushlightref06_Hex (w : World) (vs : Array Value) : (callFunc 33 vs).run Tryz.prog w = .ok (.enter 33 vs) w := by simp [go_sem]
theorem qc_int_uint32 (w : World) (m : Int) (h0 : 0 ≤ m) (h1 : m ≤ 4294967295) : (convert 3 40 (.int .i64 m)).run Tryz.prog w = .ok (.int .u32 m) w := by
  have h : IntKind.u32.wrap m = m := IntWalk.u32_in _ (by omega)
  simp [go_sem, h]
theorem qlB_rushlightref02_Inst (w : World) (g : Nat) (um0 : Int) (um1 : Int) (um2 : Int) (um3 : Int) (um4 : Int) (tt : TypeId) (h : Bx w g #[.int .i64 um0, .int .i64 um1, .int .i64 um2, .int .i64 um3, .int .i64 um4] tt) : (Instr.loadAt 28 (.pointer (some ⟨g, 0, none⟩))).run Tryz.prog w = .ok (.agg #[.int .i64 um0, .int .i64 um1, .int .i64 um2, .int .i64 um3, .int .i64 um4]) w := by
  have c0 := h.cell (j := 0) rfl
  have c1 := h.cell (j := 1) rfl
  have c2 := h.cell (j := 2) rfl
  have c3 := h.cell (j := 3) rfl
  have c4 := h.cell (j := 4) rfl
  simp [go_sem, c0, c1, c2, c3, c4]
theorem qk_rushlightref06_Line (w : World) (vs : Array Value) : (callFunc 12 vs).run Tryz.prog w = .ok (.enter 12 vs) w := by simp [go_sem]
theorem t_rdec (u : Nat) (hu : u < 4294967296) (w : World) : Calls Tryz.prog 32 #[.int .u32 (u : Int)] w fun e w' => e = .returned (decV (u : Int)) ∧ Fr (fun _ => False) w w' :=
  (rv17 (u : Int) (by omega) (by omega) w).mono fun e w' q => ⟨q.1, Fr.of_grown q.2⟩
theorem I64.N {n : Int} (h : -4294967296 ≤ n ∧ n ≤ 4294967296) : N64 n := ⟨by omega, by omega⟩
theorem regV_N (u n : Int) (b : Bool) : N64 (regV u n b) := by
  unfold regV
  split
  · have := Int.emod_nonneg (u / 2 ^ n.toNat) (show (32 : Int) ≠ 0 by decide)
    have := Int.emod_lt_of_pos (u / 2 ^ n.toNat) (show (0 : Int) < 32 by decide)
    exact I64.N (by omega)
  · exact I64.N (by omega)
theorem sg_N {a : Int} (h0 : 0 ≤ a) (h1 : a ≤ 4294967295) : N64 (sg a) := by
  refine I64.N ?_
  unfold sg
  split <;> omega
theorem gathS_N (f u : Int) : N64 (gathS f u) := sg_N (signF_in _ (gath_in2 f u)).1 (signF_in _ (gath_in2 f u)).2
theorem body_none {u : Nat} (h : findI (u : Int) = 0) : bodyT u = [46, 119, 111, 114, 100, 32, 48, 120] ++ hexT u := by
  unfold bodyT
  rw [if_pos h, asT_one]
  rfl
theorem body_some {u : Nat} (h : ¬findI (u : Int) = 0) : bodyT u = lineT (findI (u : Int)) (regV u 7 (uRd (fm (findI (u : Int))))) (regV u 15 (uRs1 (fm (findI (u : Int))))) (regV u 20 (uRs2 (fm (findI (u : Int))))) (gathS (fm (findI (u : Int))) u) := by
  unfold bodyT
  rw [if_neg h]
theorem fm_ne {k : Nat} (hk : k < 46) (k0 : k ≠ 0) : fm (ix (k : Int)) ≠ 0 := by
  have h : ∀ k : Fin 46, k.val ≠ 0 → fm (ix (k.val : Int)) ≠ 0 := by decide
  exact h ⟨k, hk⟩ k0
set_option maxRecDepth 100000 in
theorem t_rtext (ad : Option Addr) (c : Nat) (l : List Nat) (hl : l.length ≤ 40000) (hlt : ∀ k, k < l.length → l.getD k 0 < 4294967296) (w : World) (hat : U32At w ad l) : Calls Tryz.prog 16 #[.slice ad l.length c] w fun e w' => e = .returned (bts (txT l l.length)) ∧ Fr (fun _ => False) w w' := by
  refine calls_tw Tryz.func16 rfl rfl (Nat.le_of_ble_eq_true rfl) ?_
  refine TW.sreg ?_
  refine WL.op rfl rfl rfl (Go.Proofs.YtlagdgkjpnocfaaGreatDoor.W.quiet_assign rfl rfl) ?_
  refine WL.nil ?_
  refine TW.sreg ?_
  refine WL.op rfl rfl rfl (Go.Proofs.YtlagdgkjpnocfaaGreatDoor.W.quiet_assign rfl rfl) ?_
  refine WL.nil ?_
  refine TW.seq ?_
  refine TW.sreg ?_
  refine WL.op rfl rfl rfl (Go.Proofs.YtlagdgkjpnocfaaGreatDoor.W.quiet_assign rfl rfl) ?_
  refine WL.nil ?_
  refine TW.block ?_
  refine O.loopG (n := l.length) (fun a _ => (intOf (a.tmps.getD 4 undef)).toNat) (fun j a W => Kn Tryz.f16.ntmps [(0, .slice ad l.length c), (3, bts (txT l j)), (4, .int .i64 (j : Int))] a ∧ Fr (fun _ => False) w W) (fun j a W h => O.slotv h.1 rfl) 0 (Nat.zero_le _) (fun a k => ⟨(by (repeat (refine Kn.cons k rfl ?_)); exact k.base), Fr.refl _ _⟩) ?_
  rintro j a wl hj ⟨k, ff⟩
  refine TW.app (s := [(0, .slice ad l.length c), (3, bts (txT l j)), (4, .int .i64 (j : Int))]) ?_ k
  refine TW.seq ?_
  refine TW.sreg ?_
  refine WL.op rfl rfl rfl (Go.Proofs.YtlagdgkjpnocfaaGreatDoor.W.quiet_move rfl rfl) ?_
  refine WL.op rfl rfl rfl (Go.Proofs.YtlagdgkjpnocfaaGreatDoor.W.quiet_move rfl rfl) ?_
  refine O.len rfl rfl rfl rfl rfl (qn_s_uint32 _ _ _ _) ?_
  refine WL.op rfl rfl rfl (Go.Proofs.YtlagdgkjpnocfaaGreatDoor.W.quiet_bin rfl rfl rfl (fun W => qb_lss_int W _ _ _ _)) ?_
  refine O.split (fun hb => ?_) (fun hb => ?_)
  · skip
    have hj2 : j < l.length := by have := of_decide_eq_true hb; omega
    obtain ⟨g, o, rfl, hcu⟩ := hat j hj2
    obtain ⟨u, hu0⟩ : ∃ u, u = l.getD j 0 := ⟨_, rfl⟩
    have hu : u < 4294967296 := by rw [hu0]; exact hlt j hj2
    rw [← hu0] at hcu
    have h84 : (hexT (4 * j)).length = 8 := hexT_len (by omega)
    have h8 := hexT_len hu
    have hbl := body_len hu
    have htl := tx_len (l := l) (by omega) hlt j (by omega)
    have hfl := find_lt (u : Int)
    have hwl : txT l j ++ hexT (4 * j) ++ [58, 32] ++ bodyT u ++ [10] = txT l j ++ wlT (4 * j) u := by unfold wlT; simp only [List.append_assoc]
    refine WL.nil ?_
    by_cases hz : findI (u : Int) = 0
    · skip
      refine TW.cond rfl (fun _ => ?_) (fun hb => by cases hb)
      refine TW.skip ?_
      refine TW.seq ?_
      refine TW.block ?_
      refine TW.sreg ?_
      refine WL.op rfl rfl rfl (Go.Proofs.YtlagdgkjpnocfaaGreatDoor.W.quiet_move rfl rfl) ?_
      refine WL.op rfl rfl rfl (Go.Proofs.YtlagdgkjpnocfaaGreatDoor.W.quiet_move rfl rfl) ?_
      refine O.ixa rfl rfl rfl rfl rfl rfl (qi_s_uint32 _ _ _ _ _ _ (by omega)) ?_
      refine WL.ld rfl rfl rfl rfl rfl (ql_uint32 _ _ _ (ff.cell hcu id)) ?_
      refine WL.call (hr := t_rdec u hu _) rfl rfl rfl rfl rfl (fun W => qk_rushlightref02_Decode W _) ?_
      rintro e w2 ⟨rfl, f2⟩
      refine ⟨decV (u : Int), rfl, ?_⟩
      replace ff := ff.trans f2
      rw [decV_none hz]
      refine WL.op rfl rfl rfl (Go.Proofs.YtlagdgkjpnocfaaGreatDoor.W.quiet_move rfl rfl) ?_
      refine O.ext rfl rfl rfl rfl rfl rfl ?_
      refine O.ext rfl rfl rfl rfl rfl rfl ?_
      have lw1 := ff.size
      refine O.allocR rfl rfl rfl rfl (qzR_rushlightref02_Inst w2) ?_
      rintro wa1 ⟨fa1, bx1⟩
      replace ff := ff.trans fa1
      refine O.storeR rfl rfl rfl rfl rfl (qsA_rushlightref02_Inst wa1 _ _ _ _ _ _ _ _ _ _ _ bx1) ?_
      rintro wa2 ⟨fa2, bx1x⟩
      replace ff := ff.trans' fa2 (fun q hq e => by omega)
      clear bx1
      have bx1 := bx1x
      clear bx1x
      refine WL.op rfl rfl rfl (Go.Proofs.YtlagdgkjpnocfaaGreatDoor.W.quiet_assign rfl rfl) ?_
      refine WL.nil ?_
      refine TW.sreg ?_
      refine WL.op rfl rfl rfl (Go.Proofs.YtlagdgkjpnocfaaGreatDoor.W.quiet_move rfl rfl) ?_
      refine WL.op rfl rfl rfl (Go.Proofs.YtlagdgkjpnocfaaGreatDoor.W.quiet_move rfl rfl) ?_
      refine O.ixa rfl rfl rfl rfl rfl rfl (qi_s_uint32 _ _ _ _ _ _ (by omega)) ?_
      refine WL.ld rfl rfl rfl rfl rfl (ql_uint32 _ _ _ (ff.cell hcu id)) ?_
      refine WL.call (hr := t_rhex u hu _) rfl rfl rfl rfl rfl (fun W => qk_rushlightref06_Hex W _) ?_
      rintro e w3 ⟨rfl, f3⟩
      refine ⟨_, rfl, ?_⟩
      replace bx1 := bx1.fr f3 id
      replace ff := ff.trans f3
      refine WL.op rfl rfl rfl (Go.Proofs.YtlagdgkjpnocfaaGreatDoor.W.quiet_bin rfl rfl rfl (fun W => bn_cat W _ _ [46, 119, 111, 114, 100, 32, 48, 120] (hexT u) (by rw [h8]; decide))) ?_
      refine WL.op rfl rfl rfl (Go.Proofs.YtlagdgkjpnocfaaGreatDoor.W.quiet_assign rfl rfl) ?_
      refine WL.nil ?_
      refine TW.seq ?_
      refine TW.sreg ?_
      refine WL.op rfl rfl rfl (Go.Proofs.YtlagdgkjpnocfaaGreatDoor.W.quiet_move rfl rfl) ?_
      refine WL.op rfl rfl rfl (Go.Proofs.YtlagdgkjpnocfaaGreatDoor.W.quiet_bin rfl rfl rfl (fun W => qb_eql_int W _ _ _ _)) ?_
      refine O.split (fun hb => by exfalso; revert hb; first | (simp; done) | (simp; omega)) (fun hb => ?_)
      rw [body_none hz] at hwl hbl
      refine WL.nil ?_
      refine TW.cond rfl (fun hb => by cases hb) (fun _ => ?_)
      refine TW.skip ?_
      refine TW.reg ?_
      refine WL.op rfl rfl rfl (Go.Proofs.YtlagdgkjpnocfaaGreatDoor.W.quiet_move rfl rfl) ?_
      refine WL.op rfl rfl rfl (Go.Proofs.YtlagdgkjpnocfaaGreatDoor.W.quiet_move rfl rfl) ?_
      refine WL.op rfl rfl rfl (Go.Proofs.YtlagdgkjpnocfaaGreatDoor.W.quiet_bin rfl rfl rfl (fun W => (qb_mul_int W _ _ _ _ (by omega) (by omega)).trans (by rw [show (4 : Int) * (j : Int) = ((4 * j : Nat) : Int) by omega]))) ?_
      refine O.cv rfl rfl rfl rfl rfl (qc_int_uint32 _ _ (by omega) (by omega)) ?_
      refine WL.call (hr := t_rhex (4 * j) (by omega) _) rfl rfl rfl rfl rfl (fun W => qk_rushlightref06_Hex W _) ?_
      rintro e w9 ⟨rfl, f9⟩
      refine ⟨_, rfl, ?_⟩
      replace bx1 := bx1.fr f9 id
      replace ff := ff.trans f9
      refine WL.op rfl rfl rfl (Go.Proofs.YtlagdgkjpnocfaaGreatDoor.W.quiet_bin rfl rfl rfl (fun W => bn_cat W _ _ (txT l j) (hexT (4 * j)) (by rw [h84]; omega))) ?_
      refine WL.op rfl rfl rfl (Go.Proofs.YtlagdgkjpnocfaaGreatDoor.W.quiet_bin rfl rfl rfl (fun W => bn_cat W _ _ (txT l j ++ hexT (4 * j)) [58, 32] (by simp only [List.length_append, List.length_cons, List.length_nil, h84]; omega))) ?_
      refine WL.op rfl rfl rfl (Go.Proofs.YtlagdgkjpnocfaaGreatDoor.W.quiet_move rfl rfl) ?_
      refine WL.op rfl rfl rfl (Go.Proofs.YtlagdgkjpnocfaaGreatDoor.W.quiet_bin rfl rfl rfl (fun W => bn_cat W _ _ (txT l j ++ hexT (4 * j) ++ [58, 32]) ([46, 119, 111, 114, 100, 32, 48, 120] ++ hexT u) (by simp only [List.length_append, List.length_cons, List.length_nil, h84]; (try simp only [List.length_append, List.length_cons, List.length_nil] at hbl); omega))) ?_
      refine WL.op rfl rfl rfl (Go.Proofs.YtlagdgkjpnocfaaGreatDoor.W.quiet_bin rfl rfl rfl (fun W => bn_cat W _ _ (txT l j ++ hexT (4 * j) ++ [58, 32] ++ ([46, 119, 111, 114, 100, 32, 48, 120] ++ hexT u)) [10] (by simp only [List.length_append, List.length_cons, List.length_nil, h84]; (try simp only [List.length_append, List.length_cons, List.length_nil] at hbl); omega))) ?_
      refine WL.op rfl rfl rfl (Go.Proofs.YtlagdgkjpnocfaaGreatDoor.W.quiet_assign rfl rfl) ?_
      refine WL.end ?_
      refine Xw.nblk ?_
      refine Xw.nrm ?_
      refine TW.reg ?_
      refine WL.op rfl rfl rfl (Go.Proofs.YtlagdgkjpnocfaaGreatDoor.W.quiet_move rfl rfl) ?_
      refine WL.op rfl rfl rfl (Go.Proofs.YtlagdgkjpnocfaaGreatDoor.W.quiet_bin rfl rfl rfl (fun W => qb_add_int W _ _ _ _ (by omega) (by omega))) ?_
      refine WL.op rfl rfl rfl (Go.Proofs.YtlagdgkjpnocfaaGreatDoor.W.quiet_assign rfl rfl) ?_
      refine WL.end ?_
      refine Xw.any (fun a k => ?_)
      refine ⟨j + 1, by omega, by omega, ?_, ff⟩
      show Kn _ [(0, .slice (some ⟨g, o, none⟩) l.length c), (3, bts (txT l j ++ wlT (4 * j) (l.getD j 0))), (4, .int .i64 ((j + 1 : Nat) : Int))] a
      rw [← hu0, ← hwl]
      repeat (refine Kn.cons k rfl ?_)
      exact k.base
    · skip
      refine TW.cond rfl (fun _ => ?_) (fun hb => by cases hb)
      refine TW.skip ?_
      refine TW.seq ?_
      refine TW.block ?_
      refine TW.sreg ?_
      refine WL.op rfl rfl rfl (Go.Proofs.YtlagdgkjpnocfaaGreatDoor.W.quiet_move rfl rfl) ?_
      refine WL.op rfl rfl rfl (Go.Proofs.YtlagdgkjpnocfaaGreatDoor.W.quiet_move rfl rfl) ?_
      refine O.ixa rfl rfl rfl rfl rfl rfl (qi_s_uint32 _ _ _ _ _ _ (by omega)) ?_
      refine WL.ld rfl rfl rfl rfl rfl (ql_uint32 _ _ _ (ff.cell hcu id)) ?_
      refine WL.call (hr := t_rdec u hu _) rfl rfl rfl rfl rfl (fun W => qk_rushlightref02_Decode W _) ?_
      rintro e w2 ⟨rfl, f2⟩
      refine ⟨decV (u : Int), rfl, ?_⟩
      replace ff := ff.trans f2
      rw [decV_some rfl hz]
      refine WL.op rfl rfl rfl (Go.Proofs.YtlagdgkjpnocfaaGreatDoor.W.quiet_move rfl rfl) ?_
      refine O.ext rfl rfl rfl rfl rfl rfl ?_
      refine O.ext rfl rfl rfl rfl rfl rfl ?_
      have lw2 := ff.size
      refine O.allocR rfl rfl rfl rfl (qzR_rushlightref02_Inst w2) ?_
      rintro wa3 ⟨fa3, bx2⟩
      replace ff := ff.trans fa3
      refine O.storeR rfl rfl rfl rfl rfl (qsA_rushlightref02_Inst wa3 _ _ _ _ _ _ _ _ _ _ _ bx2) ?_
      rintro wa4 ⟨fa4, bx2x⟩
      replace ff := ff.trans' fa4 (fun q hq e => by omega)
      clear bx2
      have bx2 := bx2x
      clear bx2x
      refine WL.op rfl rfl rfl (Go.Proofs.YtlagdgkjpnocfaaGreatDoor.W.quiet_assign rfl rfl) ?_
      refine WL.nil ?_
      refine TW.sreg ?_
      refine WL.op rfl rfl rfl (Go.Proofs.YtlagdgkjpnocfaaGreatDoor.W.quiet_move rfl rfl) ?_
      refine WL.op rfl rfl rfl (Go.Proofs.YtlagdgkjpnocfaaGreatDoor.W.quiet_move rfl rfl) ?_
      refine O.ixa rfl rfl rfl rfl rfl rfl (qi_s_uint32 _ _ _ _ _ _ (by omega)) ?_
      refine WL.ld rfl rfl rfl rfl rfl (ql_uint32 _ _ _ (ff.cell hcu id)) ?_
      refine WL.call (hr := t_rhex u hu _) rfl rfl rfl rfl rfl (fun W => qk_rushlightref06_Hex W _) ?_
      rintro e w3 ⟨rfl, f3⟩
      refine ⟨_, rfl, ?_⟩
      replace bx2 := bx2.fr f3 id
      replace ff := ff.trans f3
      refine WL.op rfl rfl rfl (Go.Proofs.YtlagdgkjpnocfaaGreatDoor.W.quiet_bin rfl rfl rfl (fun W => bn_cat W _ _ [46, 119, 111, 114, 100, 32, 48, 120] (hexT u) (by rw [h8]; decide))) ?_
      refine WL.op rfl rfl rfl (Go.Proofs.YtlagdgkjpnocfaaGreatDoor.W.quiet_assign rfl rfl) ?_
      refine WL.nil ?_
      refine TW.seq ?_
      refine TW.sreg ?_
      refine WL.op rfl rfl rfl (Go.Proofs.YtlagdgkjpnocfaaGreatDoor.W.quiet_move rfl rfl) ?_
      refine WL.op rfl rfl rfl (Go.Proofs.YtlagdgkjpnocfaaGreatDoor.W.quiet_bin rfl rfl rfl (fun W => qb_eql_int W _ _ _ _)) ?_
      refine O.split (fun hb => ?_) (fun hb => by exfalso; revert hb; first | (simp; done) | (simp; omega))
      rw [body_some hz] at hwl hbl
      refine WL.nil ?_
      refine TW.cond rfl (fun _ => ?_) (fun hb => by cases hb)
      refine TW.reg ?_
      refine WL.ld rfl rfl rfl rfl rfl (qlB_rushlightref02_Inst _ _ _ _ _ _ _ _ bx2) ?_
      refine WL.call (hr := t_rline (findI (u : Int)) _ _ _ _ (regV_N _ _ _) (regV_N _ _ _) (regV_N _ _ _) (gathS_N _ _) (fm_ne hfl hz) _) rfl rfl rfl rfl rfl (fun W => qk_rushlightref06_Line W _) ?_
      rintro e w4 ⟨rfl, f4⟩
      refine ⟨_, rfl, ?_⟩
      replace bx2 := bx2.fr f4 id
      replace ff := ff.trans f4
      refine WL.op rfl rfl rfl (Go.Proofs.YtlagdgkjpnocfaaGreatDoor.W.quiet_assign rfl rfl) ?_
      refine WL.nil ?_
      refine TW.reg ?_
      refine WL.op rfl rfl rfl (Go.Proofs.YtlagdgkjpnocfaaGreatDoor.W.quiet_move rfl rfl) ?_
      refine WL.op rfl rfl rfl (Go.Proofs.YtlagdgkjpnocfaaGreatDoor.W.quiet_move rfl rfl) ?_
      refine WL.op rfl rfl rfl (Go.Proofs.YtlagdgkjpnocfaaGreatDoor.W.quiet_bin rfl rfl rfl (fun W => (qb_mul_int W _ _ _ _ (by omega) (by omega)).trans (by rw [show (4 : Int) * (j : Int) = ((4 * j : Nat) : Int) by omega]))) ?_
      refine O.cv rfl rfl rfl rfl rfl (qc_int_uint32 _ _ (by omega) (by omega)) ?_
      refine WL.call (hr := t_rhex (4 * j) (by omega) _) rfl rfl rfl rfl rfl (fun W => qk_rushlightref06_Hex W _) ?_
      rintro e w9 ⟨rfl, f9⟩
      refine ⟨_, rfl, ?_⟩
      replace bx2 := bx2.fr f9 id
      replace ff := ff.trans f9
      refine WL.op rfl rfl rfl (Go.Proofs.YtlagdgkjpnocfaaGreatDoor.W.quiet_bin rfl rfl rfl (fun W => bn_cat W _ _ (txT l j) (hexT (4 * j)) (by rw [h84]; omega))) ?_
      refine WL.op rfl rfl rfl (Go.Proofs.YtlagdgkjpnocfaaGreatDoor.W.quiet_bin rfl rfl rfl (fun W => bn_cat W _ _ (txT l j ++ hexT (4 * j)) [58, 32] (by simp only [List.length_append, List.length_cons, List.length_nil, h84]; omega))) ?_
      refine WL.op rfl rfl rfl (Go.Proofs.YtlagdgkjpnocfaaGreatDoor.W.quiet_move rfl rfl) ?_
      refine WL.op rfl rfl rfl (Go.Proofs.YtlagdgkjpnocfaaGreatDoor.W.quiet_bin rfl rfl rfl (fun W => bn_cat W _ _ (txT l j ++ hexT (4 * j) ++ [58, 32]) (lineT (findI (u : Int)) (regV u 7 (uRd (fm (findI (u : Int))))) (regV u 15 (uRs1 (fm (findI (u : Int))))) (regV u 20 (uRs2 (fm (findI (u : Int))))) (gathS (fm (findI (u : Int))) u)) (by simp only [List.length_append, List.length_cons, List.length_nil, h84]; (try simp only [List.length_append, List.length_cons, List.length_nil] at hbl); omega))) ?_
      refine WL.op rfl rfl rfl (Go.Proofs.YtlagdgkjpnocfaaGreatDoor.W.quiet_bin rfl rfl rfl (fun W => bn_cat W _ _ (txT l j ++ hexT (4 * j) ++ [58, 32] ++ (lineT (findI (u : Int)) (regV u 7 (uRd (fm (findI (u : Int))))) (regV u 15 (uRs1 (fm (findI (u : Int))))) (regV u 20 (uRs2 (fm (findI (u : Int))))) (gathS (fm (findI (u : Int))) u))) [10] (by simp only [List.length_append, List.length_cons, List.length_nil, h84]; (try simp only [List.length_append, List.length_cons, List.length_nil] at hbl); omega))) ?_
      refine WL.op rfl rfl rfl (Go.Proofs.YtlagdgkjpnocfaaGreatDoor.W.quiet_assign rfl rfl) ?_
      refine WL.end ?_
      refine Xw.nblk ?_
      refine Xw.nrm ?_
      refine TW.reg ?_
      refine WL.op rfl rfl rfl (Go.Proofs.YtlagdgkjpnocfaaGreatDoor.W.quiet_move rfl rfl) ?_
      refine WL.op rfl rfl rfl (Go.Proofs.YtlagdgkjpnocfaaGreatDoor.W.quiet_bin rfl rfl rfl (fun W => qb_add_int W _ _ _ _ (by omega) (by omega))) ?_
      refine WL.op rfl rfl rfl (Go.Proofs.YtlagdgkjpnocfaaGreatDoor.W.quiet_assign rfl rfl) ?_
      refine WL.end ?_
      refine Xw.any (fun a k => ?_)
      refine ⟨j + 1, by omega, by omega, ?_, ff⟩
      show Kn _ [(0, .slice (some ⟨g, o, none⟩) l.length c), (3, bts (txT l j ++ wlT (4 * j) (l.getD j 0))), (4, .int .i64 ((j + 1 : Nat) : Int))] a
      rw [← hu0, ← hwl]
      repeat (refine Kn.cons k rfl ?_)
      exact k.base
  · skip
    refine WL.nil ?_
    refine TW.cond rfl (fun hb => by cases hb) (fun _ => ?_)
    refine TW.exit ?_
    refine Xw.thn (by simp) ?_
    refine Xw.thn (by simp) ?_
    refine Xw.hit ?_
    refine Xw.nrm ?_
    refine TW.sreg ?_
    refine WL.op rfl rfl rfl (Go.Proofs.YtlagdgkjpnocfaaGreatDoor.W.quiet_move rfl rfl) ?_
    refine WL.op rfl rfl rfl (Go.Proofs.YtlagdgkjpnocfaaGreatDoor.W.quiet_assign rfl rfl) ?_
    refine WL.nil ?_
    refine TW.rt ?_
    refine bodyw_ret rfl rfl ?_
    have hje : j = l.length := by have := of_decide_eq_false hb; omega
    subst hje
    exact ⟨rfl, ff⟩
end Go.Proofs.YtlagdgkjpnocfaaGreatDoor
