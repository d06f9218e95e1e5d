/-
  Runs (layer 14): slots are placed; bytes are copied. Runs (layer 14): the globals are placed.
-/
import Derived.Test.YthdkmjbeemfbbaaQRnP
namespace Go.Proofs.Ythdkmjbeemfbbaa
open Go.RowKit
set_option linter.unusedVariables false
set_option linter.unusedSimpArgs false
theorem qn_s_api_Slot (w : World) (a : Option Addr) (k l : Nat) : (Builtin.len_ #[22] 3 #[.slice a k l]).run Try.prog w = .ok (.int .i64 k) w := by simp [go_sem]
theorem qi_s_api_Slot (w : World) (b o n c j : Nat) (hj : j < n) : (Instr.indexAt 22 (.slice (some ⟨b, o, none⟩) n c) (.int .i64 (j : Int))).run Try.prog w = .ok (.pointer (some ⟨b, o + j * 4, none⟩)) w := by
  have h : (j : Int) < (n : Int) := by omega
  simp [go_sem, h, hj]
theorem ql_api_Slot (w : World) (b o : Nat) (u0 u1 u2 u3 : Value) (h0 : w.cell? ⟨b, o, none⟩ = some u0) (h1 : w.cell? ⟨b, o + 1, none⟩ = some u1) (h2 : w.cell? ⟨b, o + 2, none⟩ = some u2) (h3 : w.cell? ⟨b, o + 3, none⟩ = some u3) : (Instr.loadAt 63 (.pointer (some ⟨b, o, none⟩))).run Try.prog w = .ok (.agg #[u0, u1, u2, u3]) w := by simp [go_sem, h0, h1, h2, h3]
theorem qzR_api_Slot (w : World) : ∃ w', (Instr.alloc 63 true (.tuple #[])).run Try.prog w = .ok (.pointer (some ⟨w.heap.size, 0, none⟩)) w' ∧ (Fr (fun _ => False) w w' ∧ Bx w' w.heap.size #[.string ⟨#[]⟩, .int .i64 0, .int .i64 0, .int .i64 0] 63) := ⟨w.alloc (.cells #[.string ⟨#[]⟩, .int .i64 0, .int .i64 0, .int .i64 0] 63), by simp [go_sem], fr_al (Fr.refl _ _) _, Bx.new _ _ _⟩
theorem qsA_api_Slot (w : World) (g : Nat) (z0 z1 z2 z3 : Value) (up0 : ByteArray) (um1 : Int) (um2 : Int) (um3 : Int) (h : Bx w g #[z0, z1, z2, z3] 63) : ∃ w', (Instr.storeAt 63 (.pointer (some ⟨g, 0, none⟩)) (.agg #[.string up0, .int .i64 um1, .int .i64 um2, .int .i64 um3])).run Try.prog w = .ok () w' ∧ (Fr (fun q => q = g) w w' ∧ Bx w' g #[.string up0, .int .i64 um1, .int .i64 um2, .int .i64 um3] 63) := h.store 63 #[.string up0, .int .i64 um1, .int .i64 um2, .int .i64 um3] (by kernel_rfl) rfl (by simp [Value.oneCell'])
theorem qv_s_int_1 (w : World) (u0_m0 : Int) : (Instr.buildSlice 46 1 #[(0, .int .i64 u0_m0)]).run Try.prog w = .ok (.slice (some ⟨w.heap.size, 0, none⟩) 1 1) (w.alloc (.cells #[.int .i64 u0_m0] 3)) := by simp [go_sem]
theorem qa_api_Slot_1 (w : World) (b o : Nat) : (Instr.fieldAt 63 (.pointer (some ⟨b, o, none⟩)) 1).run Try.prog w = .ok (.pointer (some ⟨b, o + 1, none⟩)) w := by simp [go_sem]
theorem qb_quo_int (w : World) (x y : Operand) (m n : Int) (hn : n ≠ 0) (h0 : -9223372036854775808 ≤ m.tdiv n) (h1 : m.tdiv n ≤ 9223372036854775807) : ((do eqGuard .quo 3 x y (.int .i64 m) (.int .i64 n); binOp .quo 3 (.int .i64 m) (.int .i64 n) : Sem Value)).run Try.prog w = .ok (.int .i64 (m.tdiv n)) w := by
  have h : IntKind.i64.wrap (m.tdiv n) = m.tdiv n := IntWalk.i64_in _ (by omega)
  simp [go_sem, h, hn]
def iR (x : Int) : List Value := [.int .i64 x]
theorem iR_len (x : Int) : (iR x).length = 1 := rfl
theorem IR.app {B : Nat} {W : World} {v : Value} {xs : List Int} (x : Int) (ty : TypeId) (h : Row B 3 1 iR W v xs) (hB : B ≤ W.heap.size) (hl : xs.length ≤ 1000000) : ∃ v' w', (Builtin.append_ #[46, 46] ty #[v, .slice (some ⟨W.heap.size, 0, none⟩) 1 1]).run Try.prog (W.alloc (.cells #[.int .i64 x] 3)) = .ok v' w' ∧ (Row B 3 1 iR w' v' (xs ++ [x]) ∧ Fr (fun q => v.ownBlock = some q) W w' ∧ ∀ k, v'.ownBlock = some k → v.ownBlock = some k ∨ W.heap.size ≤ k) :=
  Row.app 46 ty Try.underlying46 infoI rfl (by decide) (by decide) (fun _ => rfl) (fun z u hu => by
    simp only [iR, List.mem_cons, List.not_mem_nil, or_false] at hu
    subst hu
    rfl) x h hB hl rfl
theorem IR.cell {B : Nat} {w : World} {a : Option Addr} {n k c : Nat} {xs : List Int} (h : Row B 3 1 iR w (.slice a n c) xs) (hk : k < xs.length) : ∃ g, a = some ⟨g, 0, none⟩ ∧ B ≤ g ∧ w.cell? ⟨g, 0 + k, none⟩ = some (.int .i64 (xs.getD k 0)) ∧ w.frozen? ⟨g, 0 + k, none⟩ = false ∧ n = xs.length := by
  obtain ⟨g, cap, e, _⟩ := Row.own h (by omega)
  injection e with e1 e2 e3
  subst e1
  refine ⟨g, rfl, (Row.lt h g rfl).1, ?_, Row.free h, e2⟩
  exact Row.cell iR_len h (k := k) (x := xs[k]) (List.getElem?_eq_getElem hk) (j := 0) (by simp [iR, List.getD_eq_getElem?_getD, hk]) (by omega)
theorem SltL.slots {w : World} {a : Option Addr} {l : List Slt} (h : SltL w a l) : SlotsAt w a (slS l) := fun k hk => by
  rw [slS_len] at hk
  obtain ⟨g, o, e, c0, c1, c2, c3⟩ := h k hk
  exact ⟨g, o, _, _, _, e, c0, by rw [slS_get]; exact c1, c2, c3⟩
theorem bi_max (w : World) (ty : TypeId) (n : Int) : (Builtin.max_ #[3, 3] ty #[.int .i64 0, .int .i64 n]).run Try.prog w = .ok (.int .i64 (max 0 n)) w := by
  by_cases h : n < 0
  · have e : max 0 n = 0 := by omega
    rw [e]; simp [go_sem, Builtin.max_, Builtin.max2]; omega
  · have e : max 0 n = n := by omega
    rw [e]; simp [go_sem, Builtin.max_, Builtin.max2]; omega
theorem tdiv4 {n : Int} (h : 0 ≤ n) : n.tdiv 4 = n / 4 := Int.tdiv_eq_ediv_of_nonneg h
theorem offs_mono {s : List Int} (h : Slim s) {k : Nat} (hk : k < s.length) : offs s k + s.getD k 0 ≤ offs s s.length := by
  have step : ∀ n, k < n → n ≤ s.length → offs s k + s.getD k 0 ≤ offs s n := by
    intro n
    induction n with
    | zero => intro h1; omega
    | succ n ih =>
      intro h1 h2
      have hn := h n (by omega)
      have e : offs s (n + 1) = offs s n + (s.getD n 0 + 3) / 4 * 4 := rfl
      by_cases e2 : k = n
      · subst e2; omega
      · have := ih (by omega) (by omega); omega
  exact step _ hk (Nat.le_refl _)
/-- Bytes in memory. -/
def MB (w : World) (mb : Nat) (me : Nat → Int) : Prop := ∃ z, Bx w mb z 5 ∧ z.size = 65536 ∧ ∀ k, k < 65536 → z[k]? = some (.int .u8 (me k))
theorem MB.fr {w w' : World} {mb : Nat} {me : Nat → Int} {G : Nat → Prop} (h : MB w mb me) (hf : Fr G w w') (hn : ¬ G mb) : MB w' mb me := by
  obtain ⟨z, h1, h2, h3⟩ := h
  exact ⟨z, h1.fr hf hn, h2, h3⟩
def ByA (w : World) (a : Option Addr) (l : List Int) : Prop := ∀ k, k < l.length → ∃ g o, a = some ⟨g, o, none⟩ ∧ w.cell? ⟨g, o + k, none⟩ = some (.int .u8 (l.getD k 0))
theorem ByA.fr {w w' : World} {a : Option Addr} {l : List Int} (h : ByA w a l) (hf : Fr (fun _ => False) w w') : ByA w' a l := fun k hk => by
  obtain ⟨g, o, e, c⟩ := h k hk
  exact ⟨g, o, e, hf.cell c id⟩
/-- Rows of data with what they hold. -/
def DatB (w : World) (da : Option Addr) (l : List (List Int)) : Prop := ∀ k, k < l.length → ∃ g o a c, da = some ⟨g, o, none⟩ ∧ w.cell? ⟨g, o + k, none⟩ = some (.slice a (l.getD k []).length c) ∧ ByA w a (l.getD k [])
def rCopyB (me : Nat → Int) (p : Nat) (bs : List Int) : Nat → Int := fun j => if p ≤ j ∧ j < p + bs.length then bs.getD (j - p) 0 else me j
/-- The memory with the globals' data. -/
def rMe (s : List Int) (dat : List (List Int)) (me : Nat → Int) : Nat → (Nat → Int)
  | 0 => me
  | k + 1 => rCopyB (rMe s dat me k) (4096 + offs s k).toNat (dat.getD k [])
theorem MB.copy {w : World} {mb : Nat} {me : Nat → Int} (ty : TypeId) (h : MB w mb me) {a : Option Addr} {p c : Nat} {bs : List Int} (hb : ByA w a bs) (h0 : 0 < bs.length) (hp : p + bs.length ≤ 65536) : ∃ v' w', (Builtin.copy_ #[51, 51] ty #[.slice (some ⟨mb, p, none⟩) (65536 - p) (65536 - p), .slice a bs.length c]).run Try.prog w = .ok v' w' ∧ (MB w' mb (rCopyB me p bs) ∧ Fr (fun q => q = mb) w w') := by
  obtain ⟨z, h1, h2, h3⟩ := h
  obtain ⟨g, o, rfl, _⟩ := hb 0 h0
  have hlen : (bs.map (fun j => Value.int .u8 j)).length = bs.length := by simp
  have hc := run_copy_row (P := Try.prog) w 51 51 ty 5 mb p (65536 - p) (65536 - p) ⟨g, o, none⟩ bs.length c z 5 (bs.map (fun j => Value.int .u8 j)) Try.underlying51 (by kernel_rfl) h1 (by rw [hlen]; exact (Nat.min_eq_left (by omega)).symm) (fun j u hj => by
    have hjm : j < bs.length := by have := (List.getElem?_eq_some_iff.1 hj).1; simpa using this
    obtain ⟨g', o', e, hcell⟩ := hb j hjm
    injection e with e
    injection e with e1 e2
    subst e1 e2
    rw [Addr.add_lit, hcell, ← hj, List.getElem?_map, List.getD_eq_getElem?_getD, List.getElem?_eq_getElem hjm]
    rfl) (by rw [hlen, h2]; omega) (fun u hu => by
    simp only [List.mem_map] at hu
    obtain ⟨_, _, rfl⟩ := hu
    rfl)
  have htk : (z.toList.take p).length = p := by rw [List.length_take, Array.length_toList, h2]; omega
  refine ⟨_, _, hc, ⟨_, setRow_heap w mb z _ 5 (0, 0) h1, ?_, fun k hk => ?_⟩, ⟨rfl, rfl, by simp [World.setRow], fun q hq hn => setRow_other w mb q _ hn⟩⟩
  · simp only [List.size_toArray, List.length_append, List.length_take, List.length_drop, Array.length_toList, hlen, h2]
    omega
  · rw [List.getElem?_toArray]
    unfold rCopyB
    by_cases hkp : k < p
    · rw [if_neg (by omega), List.getElem?_append_left (by rw [List.length_append, htk]; omega), List.getElem?_append_left (by rw [htk]; exact hkp), List.getElem?_take, if_pos hkp, Array.getElem?_toList]
      exact h3 k hk
    · by_cases hk2 : k < p + bs.length
      · rw [if_pos ⟨by omega, hk2⟩, List.getElem?_append_left (by rw [List.length_append, htk, hlen]; exact hk2), List.getElem?_append_right (by rw [htk]; omega), htk, List.getElem?_map, List.getD_eq_getElem?_getD, List.getElem?_eq_getElem (by omega)]
        rfl
      · rw [if_neg (by omega), List.getElem?_append_right (by rw [List.length_append, htk, hlen]; omega), List.length_append, htk, hlen, List.getElem?_drop, show p + bs.length + (k - (p + bs.length)) = k by omega, Array.getElem?_toList]
        exact h3 k hk
def gLs (s : List Int) (n j : Nat) : List Int := (List.range n).map fun k => if k < j then 4096 + offs s k else offs s k
theorem gLs_len (s : List Int) (n j : Nat) : (gLs s n j).length = n := by simp [gLs]
theorem gLs_get (s : List Int) (n j : Nat) {k : Nat} (hk : k < n) : (gLs s n j).getD k 0 = if k < j then 4096 + offs s k else offs s k := by simp [gLs, List.getD_eq_getElem?_getD, List.getElem?_range, hk]
theorem gLs_zero (s : List Int) (n : Nat) : gLs s n 0 = offL s n := by
  unfold gLs offL
  apply List.map_congr_left
  intro k _
  rw [if_neg (by omega)]
theorem gLs_set (s : List Int) (n j : Nat) : (gLs s n j).set j (offs s j + 4096) = gLs s n (j + 1) := by
  apply List.ext_getElem?
  intro k
  rw [List.getElem?_set]
  by_cases hk : k < n
  · by_cases e : j = k
    · subst e
      simp [gLs, hk]
      omega
    · rw [if_neg e]
      simp only [gLs, List.getElem?_map, List.getElem?_range hk, Option.map_some]
      by_cases h2 : k < j
      · rw [if_pos h2, if_pos (by omega)]
      · rw [if_neg h2, if_neg (by omega)]
  · have e1 : (gLs s n j)[k]? = none := by apply List.getElem?_eq_none; rw [gLs_len]; omega
    have e2 : (gLs s n (j + 1))[k]? = none := by apply List.getElem?_eq_none; rw [gLs_len]; omega
    rw [e1, e2]
    split
    · split
      · rename_i h9; simp [gLs] at h9; omega
      · rfl
    · rfl
theorem sl_from (b p : Nat) (hp : p < 65536) (w : World) : (Instr.slice 51 (.slice (some ⟨b, 0, none⟩) 65536 65536) (some (.int .i64 (p : Int))) none none).run Try.prog w = .ok (.slice (some ⟨b, p, none⟩) (65536 - p) (65536 - p)) w := by
  have ht' : (Try.prog).underlying 51 = some (.slice ((Try.prog).elem 51)) := by kernel_rfl
  have he : (Try.prog).elem 51 = 5 := by kernel_rfl
  rw [run_slice_l w 51 _ _ _ ht' .i64 _ (by omega) (by omega), he, sz_u8]
  have e2 : ¬ 65536 = p := by omega
  by_cases h0 : p = 0
  · subst h0
    simp [Result.andThen, sliced, Addr.add]
  · simp [Result.andThen, sliced, Addr.add, e2, h0]
set_option maxRecDepth 100000 in
theorem t_place (oa : Option Addr) (c : Nat) (s : List Int) (hl : s.length ≤ 1000) (hs : Slim s) (w : World) (hat : SlotsAt w oa s) : Calls Try.prog 11 #[.slice oa s.length c] w fun e w' => ∃ v, e = .returned (.tuple #[v, .int .i64 (offs s s.length)]) ∧ Row w.heap.size 3 1 iR w' v (offL s s.length) ∧ Fr (fun _ => False) w w' := by
  refine calls_tw Try.func11 rfl rfl (Nat.le_of_ble_eq_true rfl) ?_
  refine TW.sreg ?_
  refine WL.op rfl rfl rfl (Go.Proofs.Ythdkmjbeemfbbaa.W.quiet_assign rfl rfl) ?_
  refine WL.op rfl rfl rfl (Go.Proofs.Ythdkmjbeemfbbaa.W.quiet_assign rfl rfl) ?_
  refine WL.nil ?_
  refine TW.sreg ?_
  refine WL.op rfl rfl rfl (Go.Proofs.Ythdkmjbeemfbbaa.W.quiet_assign rfl rfl) ?_
  refine WL.nil ?_
  refine TW.sreg ?_
  refine WL.op rfl rfl rfl (Go.Proofs.Ythdkmjbeemfbbaa.W.quiet_assign rfl rfl) ?_
  refine WL.nil ?_
  refine TW.seq ?_
  refine TW.sreg ?_
  refine WL.op rfl rfl rfl (Go.Proofs.Ythdkmjbeemfbbaa.W.quiet_move rfl rfl) ?_
  refine O.len rfl rfl rfl rfl rfl (qn_s_api_Slot _ _ _ _) ?_
  refine WL.op rfl rfl rfl (Go.Proofs.Ythdkmjbeemfbbaa.W.quiet_move rfl rfl) ?_
  refine WL.nil ?_
  refine TW.block ?_
  refine O.loopG (n := s.length) (fun a _ => (intOf (a.tmps.getD 10 undef)).toNat) (fun j a W => ∃ (v : Value), Kn Try.f11.ntmps [(4, v), (5, .int .i64 (offs s j)), (8, .slice oa s.length c), (9, .int .i64 (s.length : Int)), (10, .int .i64 (j : Int))] a ∧ Fr (fun _ => False) w W ∧ Row w.heap.size 3 1 iR W v (offL s j)) (fun j a W h => by obtain ⟨_, h⟩ := h; exact O.slotv h.1 rfl) 0 (Nat.zero_le _) (fun a k => ⟨.slice none 0 0, (by (repeat (refine Kn.cons k rfl ?_)); exact k.base), Fr.refl _ _, Row.nil _ _ _ _ _⟩) ?_
  rintro j a wl hj ⟨v, k, ff, hI⟩
  refine TW.app (s := [(4, v), (5, .int .i64 (offs s j)), (8, .slice oa s.length c), (9, .int .i64 (s.length : Int)), (10, .int .i64 (j : Int))]) ?_ k
  refine TW.sreg ?_
  refine WL.op rfl rfl rfl (Go.Proofs.Ythdkmjbeemfbbaa.W.quiet_bin rfl rfl rfl (fun W => qb_lss_int W _ _ _ _)) ?_
  refine O.split (fun hb => ?_) (fun hb => ?_)
  · skip
    have hj2 : j < s.length := by have := of_decide_eq_true hb; omega
    obtain ⟨g, o, nm, al, ce, rfl, h1, h2, h3, h4⟩ := hat j hj2
    have h1 := ff.cell h1 id
    have h2 := ff.cell h2 id
    have h3 := ff.cell h3 id
    have h4 := ff.cell h4 id
    have hw0 := ff.size
    obtain ⟨z0, z1, z2⟩ := offs_in hs j (by omega)
    obtain ⟨s0, s1⟩ := hs j hj2
    have hofs : offs s (j + 1) = offs s j + (s.getD j 0 + 3) / 4 * 4 := rfl
    have hoL := offL_succ s j
    have hoN := offL_len s j
    refine WL.nil ?_
    refine TW.seq ?_
    refine TW.cond rfl (fun _ => ?_) (fun hb => by cases hb)
    refine TW.skip ?_
    refine TW.seq ?_
    refine TW.block ?_
    refine TW.sreg ?_
    refine O.ixa rfl rfl rfl rfl rfl rfl (qi_s_api_Slot _ _ _ _ _ _ (by omega)) ?_
    refine WL.ld rfl rfl rfl rfl rfl (ql_api_Slot _ _ _ _ _ _ _ h1 h2 h3 h4) ?_
    have lw1 := ff.size
    refine O.allocR rfl rfl rfl rfl (qzR_api_Slot wl) ?_
    rintro wa1 ⟨fa1, bx1⟩
    replace ff := ff.trans fa1
    refine O.storeR rfl rfl rfl rfl rfl (qsA_api_Slot wa1 _ _ _ _ _ _ _ _ _ bx1) ?_
    rintro wa2 ⟨fa2, bx1x⟩
    replace ff := ff.trans' fa2 (fun q hq e => by omega)
    clear bx1
    have bx1 := bx1x
    clear bx1x
    refine WL.nil ?_
    refine TW.sreg ?_
    refine WL.op rfl rfl rfl (Go.Proofs.Ythdkmjbeemfbbaa.W.quiet_move rfl rfl) ?_
    refine WL.op rfl rfl rfl (Go.Proofs.Ythdkmjbeemfbbaa.W.quiet_move rfl rfl) ?_
    refine O.bsl rfl rfl rfl rfl rfl (qv_s_int_1 _ _) ?_
    have f0 : Fr (fun _ => False) wl wa2 := fa1.trans' fa2 (fun q hq e => by omega)
    have hvb := Row.lt hI
    refine WL.append rfl rfl rfl rfl rfl rfl (IR.app _ _ (hI.fr f0 (fun _ _ => id)) (by have := ff.size; omega) (by omega)) ?_
    rintro v2 w4 ⟨hI2, hF2, _⟩
    rw [← hoL] at hI2
    -- world w4
    replace bx1 := bx1.fr hF2 (fun e => by have := hvb _ e; omega)
    replace ff := ff.trans' hF2 (fun q hq e => by have := hvb _ e; omega)
    refine WL.op rfl rfl rfl (Go.Proofs.Ythdkmjbeemfbbaa.W.quiet_assign rfl rfl) ?_
    refine WL.nil ?_
    refine TW.reg ?_
    refine WL.op rfl rfl rfl (Go.Proofs.Ythdkmjbeemfbbaa.W.quiet_move rfl rfl) ?_
    refine WL.op rfl rfl rfl (Go.Proofs.Ythdkmjbeemfbbaa.W.quiet_field rfl rfl (fun W => (qa_api_Slot_1 W _ _))) ?_
    refine WL.ld rfl rfl rfl rfl rfl (ql_int _ _ _ (bx1.cell (j := 1) rfl)) ?_
    refine WL.op rfl rfl rfl (Go.Proofs.Ythdkmjbeemfbbaa.W.quiet_bin rfl rfl rfl (fun W => qb_add_int W _ _ _ _ (by omega) (by omega))) ?_
    refine WL.op rfl rfl rfl (Go.Proofs.Ythdkmjbeemfbbaa.W.quiet_bin rfl rfl rfl (fun W => qb_sub_int W _ _ _ _ (by omega) (by omega))) ?_
    refine O.bmax rfl rfl rfl rfl rfl rfl (bi_max _ _ _) ?_
    refine WL.op rfl rfl rfl (Go.Proofs.Ythdkmjbeemfbbaa.W.quiet_bin rfl rfl rfl (fun W => (qb_quo_int W _ _ _ _ (by decide) (by rw [tdiv4 (by omega)]; omega) (by rw [tdiv4 (by omega)]; omega)).trans (by rw [tdiv4 (by omega)]))) ?_
    refine WL.op rfl rfl rfl (Go.Proofs.Ythdkmjbeemfbbaa.W.quiet_bin rfl rfl rfl (fun W => qb_mul_int W _ _ _ _ (by omega) (by omega))) ?_
    refine WL.op rfl rfl rfl (Go.Proofs.Ythdkmjbeemfbbaa.W.quiet_bin rfl rfl rfl (fun W => (qb_add_int W _ _ _ _ (by omega) (by omega)).trans (by rw [show offs s j + max 0 (s.getD j 0 + 4 - 1) / 4 * 4 = offs s (j + 1) by rw [hofs]; omega]))) ?_
    refine WL.op rfl rfl rfl (Go.Proofs.Ythdkmjbeemfbbaa.W.quiet_assign rfl rfl) ?_
    refine WL.end ?_
    refine Xw.nblk ?_
    refine Xw.nrm ?_
    refine TW.reg ?_
    refine WL.op rfl rfl rfl (Go.Proofs.Ythdkmjbeemfbbaa.W.quiet_bin rfl rfl rfl (fun W => qb_add_int W _ _ _ _ (by omega) (by omega))) ?_
    refine WL.op rfl rfl rfl (Go.Proofs.Ythdkmjbeemfbbaa.W.quiet_move rfl rfl) ?_
    refine WL.end ?_
    refine Xw.any (fun a k => ?_)
    refine ⟨j + 1, by omega, by omega, v2, by (repeat (refine Kn.cons k rfl ?_)); exact k.base, ff, hI2⟩
  · skip
    refine WL.nil ?_
    refine TW.seq ?_
    refine TW.cond rfl (fun hb => by cases hb) (fun _ => ?_)
    refine TW.exit ?_
    refine Xw.thn (by simp) ?_
    refine Xw.thn (by simp) ?_
    refine Xw.hit ?_
    refine Xw.nrm ?_
    refine TW.sreg ?_
    refine WL.op rfl rfl rfl (Go.Proofs.Ythdkmjbeemfbbaa.W.quiet_move rfl rfl) ?_
    refine WL.op rfl rfl rfl (Go.Proofs.Ythdkmjbeemfbbaa.W.quiet_move rfl rfl) ?_
    refine WL.op rfl rfl rfl (Go.Proofs.Ythdkmjbeemfbbaa.W.quiet_assign rfl rfl) ?_
    refine WL.op rfl rfl rfl (Go.Proofs.Ythdkmjbeemfbbaa.W.quiet_assign rfl rfl) ?_
    refine WL.nil ?_
    refine TW.rt ?_
    refine O.ret2 rfl rfl rfl ?_
    have hje : j = s.length := by have := of_decide_eq_false hb; omega
    subst hje
    exact ⟨v, rfl, hI, ff⟩
theorem ql_s_api_Slot (w : World) (p : Option Addr) (k l : Nat) (d : Addr) (h : w.cell? d = some (.slice p k l)) : (Instr.loadAt 22 (.pointer (some d))).run Try.prog w = .ok (.slice p k l) w := by simp [go_sem, h]
theorem ql_s_s_uint8 (w : World) (p : Option Addr) (k l : Nat) (d : Addr) (h : w.cell? d = some (.slice p k l)) : (Instr.loadAt 23 (.pointer (some d))).run Try.prog w = .ok (.slice p k l) w := by simp [go_sem, h]
theorem qi_s_s_uint8 (w : World) (b o n c j : Nat) (hj : j < n) : (Instr.indexAt 23 (.slice (some ⟨b, o, none⟩) n c) (.int .i64 (j : Int))).run Try.prog w = .ok (.pointer (some ⟨b, o + j, none⟩)) w := by
  have h : (j : Int) < (n : Int) := by omega
  simp [go_sem, h, hj]
theorem qa_api_Module_0 (w : World) (b o : Nat) : (Instr.fieldAt 26 (.pointer (some ⟨b, o, none⟩)) 0).run Try.prog w = .ok (.pointer (some ⟨b, o, none⟩)) w := by simp [go_sem]
theorem qk_irrun_Place (w : World) (vs : Array Value) : (callFunc 11 vs).run Try.prog w = .ok (.enter 11 vs) w := by simp [go_sem]
theorem qa_api_Module_1 (w : World) (b o : Nat) : (Instr.fieldAt 26 (.pointer (some ⟨b, o, none⟩)) 1).run Try.prog w = .ok (.pointer (some ⟨b, o + 1, none⟩)) w := by simp [go_sem]
theorem qn_s_s_uint8 (w : World) (a : Option Addr) (k l : Nat) : (Builtin.len_ #[23] 3 #[.slice a k l]).run Try.prog w = .ok (.int .i64 k) w := by simp [go_sem]
theorem qsF_s_int (w : World) (g j : Nat) (z : Array Value) (tt : TypeId) (y : Value) (up0 : Option Addr) (uk0 ul0 : Nat) (h : Bx w g z tt) (hj : z[j]? = some y) : ∃ w', (Instr.storeAt 46 (.pointer (some ⟨g, j, none⟩)) (.slice up0 uk0 ul0)).run Try.prog w = .ok () w' ∧ (Fr (fun q => q = g) w w' ∧ Bx w' g (z.setIfInBounds j (.slice up0 uk0 ul0)) tt) := by
  have c0 := h.cell hj
  have e0 := h.free j
  exact ⟨w.setCell ⟨g, j, none⟩ (.slice up0 uk0 ul0), by simp [go_sem, c0, e0], Fr.setCell _ _ _ rfl, h.set j _⟩
def GlobP (M mb n : Nat) (s : List Int) (dat : List (List Int)) (me : Nat → Int) (ov ins ex pr mn inp fu fr cav : Value) (ga da : Option Addr) (gc dc : Nat) (e0 : Int) (glv fl : Value) (w : World) (e : Ending) (w' : World) : Prop :=
  (61440 < offs s n ∧ e = .returned (.bool false) ∧ Bx w' M #[ov, ins, ex, .int .i64 8, .slice ga n gc, .slice da n dc, pr, mn, inp, fu, .slice (some ⟨mb, 0, none⟩) 65536 65536, glv, fl, fr, cav] 55 ∧ MB w' mb me ∧ Fr (fun q => q = M ∨ q = mb) w w') ∨
  (¬ 61440 < offs s n ∧ e = .returned (.bool true) ∧ ∃ la lc, Bx w' M #[ov, ins, ex, .int .i64 e0, .slice ga n gc, .slice da n dc, pr, mn, inp, fu, .slice (some ⟨mb, 0, none⟩) 65536 65536, .slice la n lc, .int .i64 (4096 + offs s n), fr, cav] 55 ∧ MB w' mb (rMe s dat me n) ∧ (∀ j, j < n → ∃ h, la = some ⟨h, 0, none⟩ ∧ w.heap.size ≤ h ∧ w'.cell? ⟨h, j, none⟩ = some (.int .i64 (4096 + offs s j))) ∧ Fr (fun q => q = M ∨ q = mb) w w')
set_option maxRecDepth 100000 in
theorem t_globals (M mb n : Nat) (s : List Int) (dat : List (List Int)) (me : Nat → Int) (ov ins ex pr mn inp fu fr cav : Value) (ga da : Option Addr) (gc dc : Nat) (e0 : Int) (glv fl : Value) (hn : n ≤ 200) (hsl0 : s.length = n) (hdl0 : dat.length = n) (hs : Slim s) (hs1 : ∀ k, k < s.length → 1 ≤ s.getD k 0) (hdn : ∀ k, k < n → ((dat.getD k []).length : Int) = s.getD k 0) (w0 w : World) (hat : SlotsAt w0 ga s) (hdat : DatB w0 da dat) (f00 : Fr (fun _ => False) w0 w) (hM0 : w0.heap.size ≤ M) (hb0 : w0.heap.size ≤ mb) (hne : M ≠ mb) (hm : Bx w M #[ov, ins, ex, .int .i64 e0, .slice ga n gc, .slice da n dc, pr, mn, inp, fu, .slice (some ⟨mb, 0, none⟩) 65536 65536, glv, fl, fr, cav] 55) (hb : MB w mb me) : Calls Try.prog 12 #[.pointer (some ⟨M, 0, none⟩)] w (GlobP M mb n s dat me ov ins ex pr mn inp fu fr cav ga da gc dc e0 glv fl w) := by
  have ff := Fr.refl (fun q => q = M ∨ q = mb) w
  have hMl := hm.lt
  have hbl : mb < w.heap.size := by obtain ⟨zb, hzb, _⟩ := id hb; exact hzb.lt
  refine calls_tw Try.func12 rfl rfl (Nat.le_of_ble_eq_true rfl) ?_
  refine TW.sreg ?_
  refine WL.op rfl rfl rfl (Go.Proofs.Ythdkmjbeemfbbaa.W.quiet_assign rfl rfl) ?_
  refine WL.nil ?_
  refine TW.sreg ?_
  refine WL.op rfl rfl rfl (Go.Proofs.Ythdkmjbeemfbbaa.W.quiet_move rfl rfl) ?_
  refine O.nck rfl rfl rfl rfl rfl ?_
  refine WL.op rfl rfl rfl (Go.Proofs.Ythdkmjbeemfbbaa.W.quiet_field rfl rfl (fun W => (qa_irrun_machine_1 W _ _))) ?_
  refine WL.op rfl rfl rfl (Go.Proofs.Ythdkmjbeemfbbaa.W.quiet_field rfl rfl (fun W => (qa_api_Module_0 W _ _))) ?_
  refine WL.ld rfl rfl rfl rfl rfl (ql_s_api_Slot _ _ _ _ _ (hm.cell (j := 4) rfl)) ?_
  refine WL.call (hr := (by have z := t_place ga gc s (by omega) hs w (hat.fr f00); rw [hsl0] at z; exact z)) rfl rfl rfl rfl rfl (fun W => qk_irrun_Place W _) ?_
  rintro e w1 ⟨v, rfl, hg, f1⟩
  refine ⟨_, rfl, ?_⟩
  replace hm := hm.fr f1 id
  replace ff := ff.trans' f1 (fun q hq e => e.elim)
  replace hb := hb.fr f1 id
  obtain ⟨la, lc, rfl⟩ := Row.form hg
  rw [offL_len] at hg ⊢
  refine WL.op rfl rfl rfl (Go.Proofs.Ythdkmjbeemfbbaa.W.quiet_move rfl rfl) ?_
  refine O.ext rfl rfl rfl rfl rfl rfl ?_
  refine O.ext rfl rfl rfl rfl rfl rfl ?_
  refine WL.op rfl rfl rfl (Go.Proofs.Ythdkmjbeemfbbaa.W.quiet_assign rfl rfl) ?_
  refine WL.op rfl rfl rfl (Go.Proofs.Ythdkmjbeemfbbaa.W.quiet_assign rfl rfl) ?_
  refine WL.nil ?_
  refine TW.seq ?_
  refine TW.sreg ?_
  refine WL.op rfl rfl rfl (Go.Proofs.Ythdkmjbeemfbbaa.W.quiet_move rfl rfl) ?_
  refine WL.op rfl rfl rfl (Go.Proofs.Ythdkmjbeemfbbaa.W.quiet_bin rfl rfl rfl (fun W => qb_gtr_int W _ _ _ _)) ?_
  refine O.split (fun hb2 => ?_) (fun hb2 => ?_)
  · skip
    refine WL.nil ?_
    refine TW.cond rfl (fun _ => ?_) (fun hb => by cases hb)
    refine TW.sreg ?_
    refine WL.op rfl rfl rfl (Go.Proofs.Ythdkmjbeemfbbaa.W.quiet_move rfl rfl) ?_
    refine O.nck rfl rfl rfl rfl rfl ?_
    refine WL.op rfl rfl rfl (Go.Proofs.Ythdkmjbeemfbbaa.W.quiet_field rfl rfl (fun W => (qa_irrun_machine_0 W _ _))) ?_
    refine WL.op rfl rfl rfl (Go.Proofs.Ythdkmjbeemfbbaa.W.quiet_field rfl rfl (fun W => (qa_api_Outcome_3 W _ _))) ?_
    refine O.storeR rfl rfl rfl rfl rfl (qsF_api_Errno w1 _ 3 _ _ _ _ hm rfl) ?_
    rintro wa1 ⟨fa1, hmx⟩
    replace ff := ff.trans' fa1 (fun q hq e => .inl e)
    replace hb := hb.fr fa1 (fun e => by omega)
    clear hm
    have hm := hmx
    clear hmx
    refine WL.nil ?_
    refine TW.sreg ?_
    refine WL.op rfl rfl rfl (Go.Proofs.Ythdkmjbeemfbbaa.W.quiet_assign rfl rfl) ?_
    refine WL.nil ?_
    refine TW.rt ?_
    refine Xw.thn (by simp) ?_
    refine bodyw_ret rfl rfl ?_
    exact .inl ⟨of_decide_eq_true hb2, rfl, hm, hb, ff⟩
  · skip
    have hbig := of_decide_eq_false hb2
    clear hb2
    refine WL.nil ?_
    refine TW.cond rfl (fun hb => by cases hb) (fun _ => ?_)
    refine TW.skip ?_
    refine TW.seq ?_
    refine TW.sreg ?_
    refine WL.op rfl rfl rfl (Go.Proofs.Ythdkmjbeemfbbaa.W.quiet_move rfl rfl) ?_
    refine O.nck rfl rfl rfl rfl rfl ?_
    refine WL.op rfl rfl rfl (Go.Proofs.Ythdkmjbeemfbbaa.W.quiet_field rfl rfl (fun W => (qa_irrun_machine_1 W _ _))) ?_
    refine WL.op rfl rfl rfl (Go.Proofs.Ythdkmjbeemfbbaa.W.quiet_field rfl rfl (fun W => (qa_api_Module_1 W _ _))) ?_
    refine WL.ld rfl rfl rfl rfl rfl (ql_s_s_uint8 _ _ _ _ _ (hm.cell (j := 5) rfl)) ?_
    refine O.len rfl rfl rfl rfl rfl (qn_s_s_uint8 _ _ _ _) ?_
    refine WL.op rfl rfl rfl (Go.Proofs.Ythdkmjbeemfbbaa.W.quiet_move rfl rfl) ?_
    refine WL.nil ?_
    refine TW.block ?_
    refine O.loopG (n := n) (fun a _ => (intOf (a.tmps.getD 28 undef)).toNat) (fun j a W => Kn Try.f12.ntmps [(0, .pointer (some ⟨M, 0, none⟩)), (3, .slice la n lc), (4, .int .i64 (offs s n)), (26, .slice da n dc), (27, .int .i64 (n : Int)), (28, .int .i64 (j : Int))] a ∧ Fr (fun q => q = M ∨ q = mb) w W ∧ Bx W M #[ov, ins, ex, .int .i64 e0, .slice ga n gc, .slice da n dc, pr, mn, inp, fu, .slice (some ⟨mb, 0, none⟩) 65536 65536, glv, fl, fr, cav] 55 ∧ MB W mb (rMe s dat me j) ∧ Row w.heap.size 3 1 iR W (.slice la n lc) (gLs s n j)) (fun j a W h => O.slotv h.1 rfl) 0 (Nat.zero_le _) (fun a k => ⟨(by (repeat (refine Kn.cons k rfl ?_)); exact k.base), ff, hm, hb, by rw [gLs_zero]; exact hg⟩) ?_
    rintro j a wl hj ⟨k, ff, hm, hb, hg⟩
    refine TW.app (s := [(0, .pointer (some ⟨M, 0, none⟩)), (3, .slice la n lc), (4, .int .i64 (offs s n)), (26, .slice da n dc), (27, .int .i64 (n : Int)), (28, .int .i64 (j : Int))]) ?_ k
    refine TW.sreg ?_
    refine WL.op rfl rfl rfl (Go.Proofs.Ythdkmjbeemfbbaa.W.quiet_bin rfl rfl rfl (fun W => qb_lss_int W _ _ _ _)) ?_
    refine O.split (fun hb2 => ?_) (fun hb2 => ?_)
    · skip
      have hj2 : j < n := by have := of_decide_eq_true hb2; omega
      have f0 : Fr (fun _ => False) w0 wl := f00.trans' ff (fun q hq e => by omega)
      obtain ⟨gd, od, ad, cd, rfl, hdc, hby⟩ := hdat j (by omega)
      have hby2 := hby.fr f0
      have hdl := hdn j hj2
      obtain ⟨h, hla, hge, hcl, hfz, _⟩ := IR.cell hg (k := j) (by rw [gLs_len]; exact hj2)
      obtain rfl := hla
      have hms := offs_mono hs (k := j) (by omega)
      rw [hsl0] at hms
      obtain ⟨z0, z1, z2⟩ := offs_in hs j (by omega)
      have hsj := hs1 j (by omega)
      rw [gLs_get _ _ _ hj2, if_neg (Nat.lt_irrefl j)] at hcl
      obtain ⟨p, hp⟩ : ∃ p : Nat, offs s j + 4096 = (p : Int) := ⟨(offs s j + 4096).toNat, by omega⟩
      have hp2 : p + (dat.getD j []).length ≤ 65536 := by omega
      have hp0 : 0 < (dat.getD j []).length := by omega
      refine WL.nil ?_
      refine TW.seq ?_
      refine TW.cond rfl (fun _ => ?_) (fun hb => by cases hb)
      refine TW.skip ?_
      refine TW.seq ?_
      refine TW.block ?_
      refine TW.sreg ?_
      refine WL.op rfl rfl rfl (Go.Proofs.Ythdkmjbeemfbbaa.W.quiet_move rfl rfl) ?_
      refine O.ixa rfl rfl rfl rfl rfl rfl (qi_s_s_uint8 _ _ _ _ _ _ (by omega)) ?_
      refine WL.ld rfl rfl rfl rfl rfl (ql_s_uint8 _ _ _ _ _ (f0.cell hdc id)) ?_
      refine WL.op rfl rfl rfl (Go.Proofs.Ythdkmjbeemfbbaa.W.quiet_assign rfl rfl) ?_
      refine WL.op rfl rfl rfl (Go.Proofs.Ythdkmjbeemfbbaa.W.quiet_assign rfl rfl) ?_
      refine WL.nil ?_
      refine TW.sreg ?_
      refine WL.op rfl rfl rfl (Go.Proofs.Ythdkmjbeemfbbaa.W.quiet_move rfl rfl) ?_
      refine WL.op rfl rfl rfl (Go.Proofs.Ythdkmjbeemfbbaa.W.quiet_move rfl rfl) ?_
      refine O.ixa rfl rfl rfl rfl rfl rfl (qi_s_int _ _ _ _ _ _ (by omega)) ?_
      refine WL.ld rfl rfl rfl rfl rfl (ql_int _ _ _ hcl) ?_
      refine WL.op rfl rfl rfl (Go.Proofs.Ythdkmjbeemfbbaa.W.quiet_bin rfl rfl rfl (fun W => qb_add_int W _ _ _ _ (by omega) (by omega))) ?_
      refine O.ixa rfl rfl rfl rfl rfl rfl (qi_s_int _ _ _ _ _ _ (by omega)) ?_
      refine O.storeR rfl rfl rfl rfl rfl (show ∃ w', _ ∧ (w' = wl.setCell ⟨h, 0 + j, none⟩ (.int .i64 (offs s j + 4096))) from ⟨_, qs_int _ _ _ _ hcl hfz, rfl⟩) ?_
      rintro w5 rfl
      have hf5 : Fr (fun q => q = h) wl (wl.setCell ⟨h, 0 + j, none⟩ (.int .i64 (offs s j + 4096))) := Fr.setCell _ _ _ rfl
      have hg5 := Row.upd iR_len hg (k := j) (by rw [gLs_len]; exact hj2) (j := 0) (by decide) (q := 0 + j) (by omega) (.int .i64 (offs s j + 4096)) (offs s j + 4096) (fun x hx => rfl)
      rw [gLs_set] at hg5
      have hMh : M ≠ h := by omega
      have hbh : mb ≠ h := by omega
      generalize wl.setCell ⟨h, 0 + j, none⟩ (.int .i64 (offs s j + 4096)) = w5 at *
      have hm5 := hm.fr hf5 hMh
      have hb5 := hb.fr hf5 hbh
      have ff5 := ff.trans' hf5 (fun q hq e => by omega)
      have hby5 : ByA w5 ad (dat.getD j []) := hby.fr (f00.trans' ff5 (fun q hq e => by omega))
      clear hm hb ff hg
      have hm := hm5
      have hb := hb5
      have ff := ff5
      have hg := hg5
      clear hm5 hb5 ff5 hg5
      obtain ⟨h2, hla2, hge2, hcl2, hfz2, _⟩ := IR.cell hg (k := j) (by rw [gLs_len]; exact hj2)
      obtain rfl : h = h2 := by injection hla2 with e; injection e
      rw [gLs_get _ _ _ hj2, if_pos (Nat.lt_succ_self j), Int.add_comm, hp] at hcl2
      refine WL.nil ?_
      have hm1 := hm
      refine TW.regH (fun W => Fr (fun q => q = mb) w5 W) (by kernel_rfl) ?_
      have fd : Fr (fun _ => False) w5 w5.drew := (Fr.refl _ _).drewN 1
      have HW : Fr (fun q => q = mb) w5 w5.drew := (Fr.refl _ _).drewN 1
      replace hm := hm.fr fd id
      replace ff := ff.trans' fd (fun q hq e => e.elim)
      replace hb := hb.fr fd id
      replace hg := Row.fr hg fd (fun _ _ => id)
      have hby6 := hby5.fr fd
      generalize hV : w5.drew = V1 at *
      clear hV
      refine WH.take 0 rfl (by kernel_rfl) (by kernel_rfl) (by kernel_rfl) (fun _ _ _ _ _ h => h) rfl rfl rfl HW (RH.move rfl rfl) ?_
      refine WH.take 1 rfl (by kernel_rfl) (by kernel_rfl) (by kernel_rfl) (fun _ _ _ _ _ h => h) rfl rfl rfl HW (RH.nck rfl rfl) ?_
      refine WH.take 2 rfl (by kernel_rfl) (by kernel_rfl) (by kernel_rfl) (fun _ _ _ _ _ h => h) rfl rfl rfl HW (RH.field rfl rfl (fun W => qa_irrun_machine_4 W _ _)) ?_
      refine WH.take 3 rfl (by kernel_rfl) (by kernel_rfl) (by kernel_rfl) (fun _ _ _ _ _ h => h) rfl rfl rfl HW (RH.load rfl rfl (fun W hW => (ql_s_uint8 _ _ _ _ _ ((hm1.fr hW hne).cell (j := 10) rfl)))) ?_
      refine WH.take 4 rfl (by kernel_rfl) (by kernel_rfl) (by kernel_rfl) (fun _ _ _ _ _ h => h) rfl rfl rfl HW (RH.move rfl rfl) ?_
      refine WH.take 5 rfl (by kernel_rfl) (by kernel_rfl) (by kernel_rfl) (fun _ _ _ _ _ h => h) rfl rfl rfl HW (RH.move rfl rfl) ?_
      refine WH.take 6 rfl (by kernel_rfl) (by kernel_rfl) (by kernel_rfl) (fun _ _ _ _ _ h => h) rfl rfl rfl HW (RH.index rfl rfl rfl (fun W => (qi_s_int _ _ _ _ _ _ (by omega)))) ?_
      refine WH.take 7 rfl (by kernel_rfl) (by kernel_rfl) (by kernel_rfl) (fun _ _ _ _ _ h => h) rfl rfl rfl HW (RH.load rfl rfl (fun W hW => (ql_int _ _ _ (hW.cell hcl2 (fun e => hbh e.symm))))) ?_
      refine WH.take 8 rfl (by kernel_rfl) (by kernel_rfl) (by kernel_rfl) (fun _ _ _ _ _ h => h) rfl rfl rfl HW (RH.sl1 rfl rfl rfl (fun W hW => (sl_from _ _ (by omega) _))) ?_
      refine WH.take 9 rfl (by kernel_rfl) (by kernel_rfl) (by kernel_rfl) (fun _ _ _ _ _ h => h) rfl rfl rfl HW (RH.move rfl rfl) ?_
      refine WH.one 10 (by kernel_rfl) rfl ?_ 
      refine O.copy rfl rfl rfl rfl rfl rfl (MB.copy _ hb hby6 hp0 hp2) ?_
      rintro v7 w7 ⟨hb7, hf7⟩
      replace HW := HW.trans' hf7 (fun q hq e => e)
      have hm7 := hm.fr hf7 hne
      have ff7 := ff.trans' hf7 (fun q hq e => .inr e)
      have hg7 := Row.fr hg hf7 (fun k hk e => hbh (e.symm.trans (Option.some.inj hk).symm))
      clear hm hb ff hg
      have hm := hm7
      have ff := ff7
      have hg := hg7
      have hb : MB w7 mb (rMe s dat me (j + 1)) := by
        show MB w7 mb (rCopyB (rMe s dat me j) (4096 + offs s j).toNat (dat.getD j []))
        rw [show (4096 + offs s j).toNat = p by omega]
        exact hb7
      -- world w7
      refine WL.fin HW ?_
      refine WH.end (by kernel_rfl) ?_
      refine Xw.nblk ?_
      refine Xw.nrm ?_
      refine TW.reg ?_
      refine WL.op rfl rfl rfl (Go.Proofs.Ythdkmjbeemfbbaa.W.quiet_bin rfl rfl rfl (fun W => qb_add_int W _ _ _ _ (by omega) (by omega))) ?_
      refine WL.op rfl rfl rfl (Go.Proofs.Ythdkmjbeemfbbaa.W.quiet_move rfl rfl) ?_
      refine WL.end ?_
      refine Xw.any (fun a k => ?_)
      refine ⟨j + 1, by omega, by omega, by (repeat (refine Kn.cons k rfl ?_)); exact k.base, ff, hm, hb, hg⟩
    · skip
      have hje : j = n := by have := of_decide_eq_false hb2; omega
      have hzz := offs_in hs n (by omega)
      subst hje
      refine WL.nil ?_
      refine TW.seq ?_
      refine TW.cond rfl (fun hb => by cases hb) (fun _ => ?_)
      refine TW.exit ?_
      refine Xw.thn (by simp) ?_
      refine Xw.thn (by simp) ?_
      refine Xw.hit ?_
      refine Xw.nrm ?_
      refine TW.sreg ?_
      refine WL.op rfl rfl rfl (Go.Proofs.Ythdkmjbeemfbbaa.W.quiet_move rfl rfl) ?_
      refine WL.op rfl rfl rfl (Go.Proofs.Ythdkmjbeemfbbaa.W.quiet_move rfl rfl) ?_
      refine WL.op rfl rfl rfl (Go.Proofs.Ythdkmjbeemfbbaa.W.quiet_move rfl rfl) ?_
      refine WL.op rfl rfl rfl (Go.Proofs.Ythdkmjbeemfbbaa.W.quiet_move rfl rfl) ?_
      refine WL.op rfl rfl rfl (Go.Proofs.Ythdkmjbeemfbbaa.W.quiet_bin rfl rfl rfl (fun W => qb_add_int W _ _ _ _ (by omega) (by omega))) ?_
      refine O.nck rfl rfl rfl rfl rfl ?_
      refine WL.op rfl rfl rfl (Go.Proofs.Ythdkmjbeemfbbaa.W.quiet_field rfl rfl (fun W => (qa_irrun_machine_5 W _ _))) ?_
      refine O.storeR rfl rfl rfl rfl rfl (qsF_s_int wl _ 11 _ _ _ _ _ _ hm rfl) ?_
      rintro wa2 ⟨fa2, hmx⟩
      replace ff := ff.trans' fa2 (fun q hq e => .inl e)
      replace hb := hb.fr fa2 (fun e => by omega)
      replace hg := Row.fr hg fa2 (fun k hk e => Row.apart_typ hg hm (by decide) (hk.trans (congrArg some e)))
      clear hm
      have hm := hmx
      clear hmx
      refine O.nck rfl rfl rfl rfl rfl ?_
      refine WL.op rfl rfl rfl (Go.Proofs.Ythdkmjbeemfbbaa.W.quiet_field rfl rfl (fun W => (qa_irrun_machine_6 W _ _))) ?_
      refine O.storeR rfl rfl rfl rfl rfl (qsF_int wa2 _ 12 _ _ _ _ hm rfl) ?_
      rintro wa3 ⟨fa3, hmx⟩
      replace ff := ff.trans' fa3 (fun q hq e => .inl e)
      replace hb := hb.fr fa3 (fun e => by omega)
      replace hg := Row.fr hg fa3 (fun k hk e => Row.apart_typ hg hm (by decide) (hk.trans (congrArg some e)))
      clear hm
      have hm := hmx
      clear hmx
      refine WL.nil ?_
      refine TW.sreg ?_
      refine WL.op rfl rfl rfl (Go.Proofs.Ythdkmjbeemfbbaa.W.quiet_assign rfl rfl) ?_
      refine WL.nil ?_
      refine TW.rt ?_
      refine bodyw_ret rfl rfl ?_
      refine .inr ⟨hbig, rfl, la, lc, hm, hb, fun q hq => ?_, ff⟩
      obtain ⟨h, rfl, hge, hcl, _, _⟩ := IR.cell hg (k := q) (by rw [gLs_len]; exact hq)
      rw [gLs_get _ _ _ hq, if_pos hq, Nat.zero_add] at hcl
      exact ⟨h, rfl, hge, hcl⟩
end Go.Proofs.Ythdkmjbeemfbbaa
