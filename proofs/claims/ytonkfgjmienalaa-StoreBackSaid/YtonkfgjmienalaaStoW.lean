/-
  Memories (layer 11): a number or a pointer is put on a memory with pointers.
-/
import Derived.Test.YtonkfgjmienalaaStoV
import Derived.StillTailTactics
import Derived.Deep.RegionHeld3
namespace Go.Proofs.Ytonkfgjmienalaa
open Go.RowKit Go.Maps
set_option linter.unusedVariables false
set_option linter.unusedSimpArgs false
def FM (ob : Nat) (C : Option Ch) (mp : Value) : Nat → Prop := fun j => j = ob ∨ Ch.has C j ∨ mp = .map (some j)
/-- While a value is put. -/
structure PutM (N : Nat) (w wl : World) (sb ob : Nat) (C C' : Option Ch) (bs : List BC) (mp : Value) (f : Int → PV) (off u a b c d : Int) (is : Bool) : Prop where
  m : MP N wl sb ob C' bs mp f
  fr : Fr (FM ob C mp) w wl
  sz : w.heap.size + 2 ≤ wl.heap.size
  ch : ∀ b, Ch.has C' b → Ch.has C b ∨ w.heap.size + 2 ≤ b
  z3 : wl.cell? ⟨w.heap.size, 3, none⟩ = some (.int .i64 off)
  v0 : wl.cell? ⟨w.heap.size + 1, 0, none⟩ = some (.int .u32 u)
  v1 : wl.cell? ⟨w.heap.size + 1, 1, none⟩ = some (.int .i64 a)
  v2 : wl.cell? ⟨w.heap.size + 1, 2, none⟩ = some (.int .i64 b)
  v3 : wl.cell? ⟨w.heap.size + 1, 3, none⟩ = some (.int .i64 c)
  v4 : wl.cell? ⟨w.heap.size + 1, 4, none⟩ = some (.int .i64 d)
  v5 : wl.cell? ⟨w.heap.size + 1, 5, none⟩ = some (.bool is)
section
variable {N : Nat} {w wl w' : World} {sb ob : Nat} {C C' C'' : Option Ch} {bs bs' : List BC} {mp : Value} {f f' : Int → PV} {off u a b c d : Int} {is : Bool}
theorem PutM.quiet (h : PutM N w wl sb ob C C' bs mp f off u a b c d is) (hf : Fr (fun _ => False) wl w') : PutM N w w' sb ob C C' bs mp f off u a b c d is :=
  ⟨h.m.quiet hf, h.fr.trans' hf (fun _ _ x => x.elim), Nat.le_trans h.sz hf.size, h.ch, hf.cell h.z3 id, hf.cell h.v0 id, hf.cell h.v1 id, hf.cell h.v2 id, hf.cell h.v3 id, hf.cell h.v4 id, hf.cell h.v5 id⟩
/-- A step that writes no block but old ones and the bytes' new ones. -/
theorem PutM.go {G : Nat → Prop} (h : PutM N w wl sb ob C C' bs mp f off u a b c d is) (hm : MP N w' sb ob C'' bs' mp f') (hf : Fr G wl w') (hG : ∀ j, j < w.heap.size → G j → FM ob C mp j) (n0 : ¬ G w.heap.size) (n1 : ¬ G (w.heap.size + 1)) (hc : ∀ b, Ch.has C'' b → Ch.has C' b ∨ wl.heap.size ≤ b) :
    PutM N w w' sb ob C C'' bs' mp f' off u a b c d is := by
  refine ⟨hm, h.fr.trans' hf (fun j hj e => hG j hj e), Nat.le_trans h.sz hf.size, fun b hb => ?_, hf.cell h.z3 n0, hf.cell h.v0 n1, hf.cell h.v1 n1, hf.cell h.v2 n1, hf.cell h.v3 n1, hf.cell h.v4 n1, hf.cell h.v5 n1⟩
  rcases hc b hb with q | q
  · exact h.ch b q
  · have := h.sz; exact .inr (by omega)
theorem PutM.forget (h : PutM N w wl sb ob C C' bs mp f off u a b c d is) (hM : ∀ b, mp = .map (some b) → b < w.heap.size) (hm : MP N w' sb ob C' bs mp f') (hf : Fr (fun j => mp = .map (some j)) wl w') : PutM N w w' sb ob C C' bs mp f' off u a b c d is :=
  h.go hm hf (fun j _ e => .inr (.inr e)) (fun e => by have := hM _ e; omega) (fun e => by have := hM _ e; omega) (fun _ => .inl)
theorem PutM.set (h : PutM N w wl sb ob C C' bs mp f off u a b c d is) (hob : ob < w.heap.size) (hC : ∀ b, Ch.has C b → b < w.heap.size) (hm : MP N w' sb ob C'' bs' mp f') (hf : Fr (fun j => j = ob ∨ Ch.has C' j) wl w') (hc : ∀ b, Ch.has C'' b → Ch.has C' b ∨ wl.heap.size ≤ b) : PutM N w w' sb ob C C'' bs' mp f' off u a b c d is := by
  refine h.go hm hf (fun j hj e => ?_) (fun e => ?_) (fun e => ?_) hc
  · rcases e with e | e
    · exact .inl e
    · rcases h.ch _ e with q | q
      · exact .inr (.inl q)
      · omega
  · rcases e with e | e
    · omega
    · rcases h.ch _ e with q | q
      · have := hC _ q; omega
      · omega
  · rcases e with e | e
    · omega
    · rcases h.ch _ e with q | q
      · have := hC _ q; omega
      · omega
theorem PutM.zero (h : PutM N w wl sb ob C C' bs mp f off u a b c d is) (hsb : sb < w.heap.size) (hob : ob < w.heap.size) (hC : ∀ b, Ch.has C' b → b ≠ w.heap.size + 1) (hM : ∀ b, mp = .map (some b) → b < w.heap.size) : PutM N w (wl.setCell ⟨w.heap.size + 1, 0, none⟩ (.int .u32 0)) sb ob C C' bs mp f off 0 a b c d is := by
  have g : Fr (fun j => j = w.heap.size + 1) wl (wl.setCell ⟨w.heap.size + 1, 0, none⟩ (.int .u32 0)) := Fr.setCell (F := fun j => j = w.heap.size + 1) _ _ _ rfl
  have hm := h.m
  exact ⟨⟨hm.s.kept g (by show ¬ sb = _; omega) (by show ¬ ob = _; omega), hm.b.kept g (fun x hx e => hC x hx e), hm.d, hm.p.kept g (fun x hx e => by have := hM x hx; omega), fun x hx => by obtain ⟨p, q, r, t⟩ := hm.q x hx; exact ⟨p, q, r, Nat.lt_of_lt_of_le t g.size⟩⟩, h.fr.trans' g (fun j hj e => by omega), Nat.le_trans h.sz g.size, h.ch, g.cell h.z3 (by show ¬ w.heap.size = _; omega), World.cell?_setCell_same _ _ _ h.v0, set_keep h.v1 (by decide), set_keep h.v2 (by decide), set_keep h.v3 (by decide), set_keep h.v4 (by decide), set_keep h.v5 (by decide)⟩
end
def PutP (N : Nat) (sb ob : Nat) (C : Option Ch) (mp : Value) (bs' : List BC) (f' : Int → PV) (w : World) (r : Ending) (w' : World) : Prop :=
  r = .returned (.int .i64 0) ∧ ∃ C' mp', MP (N + 1) w' sb ob C' bs' mp' f' ∧ Fr (FM ob C mp) w w' ∧ (∀ b, Ch.has C' b → Ch.has C b ∨ w.heap.size ≤ b) ∧ (∀ b, mp' = .map (some b) → mp = .map (some b) ∨ w.heap.size ≤ b)
set_option maxRecDepth 100000 in
set_option maxHeartbeats 4000000 in
theorem put_numM {N : Nat} {w : World} {sb ob : Nat} {C : Option Ch} {bs : List BC} {mp : Value} {f : Int → PV} (h : MP N w sb ob C bs mp f) (hN : N ≤ 800) (hs : bs.length < 512) (lo hi : Int) (off : Nat) (h2 : off + 4 ≤ bs.length) (h3 : lo ≤ off) (h4 : (off : Int) + 4 ≤ hi) (u a b c d : Int) (hu : 0 ≤ u ∧ u < 4294967296) :
    Calls Try.prog 8 #[.pointer (some ⟨sb, 0, none⟩), .agg #[.int .i64 1, .int .i64 lo, .int .i64 hi, .int .i64 off], .int .i64 4, .agg #[.int .u32 u, .int .i64 a, .int .i64 b, .int .i64 c, .int .i64 d, .bool false]] w (PutP N sb ob C mp (putB bs off u 4) (forgF f off) w) := by
  obtain ⟨l1, l2, l3, l4⟩ := h.lt (by omega)
  have hp0 : PutM N w ((w.alloc (.cells #[.int .i64 1, .int .i64 lo, .int .i64 hi, .int .i64 off] 24)).alloc (.cells #[.int .u32 u, .int .i64 a, .int .i64 b, .int .i64 c, .int .i64 d, .bool false] 26)) sb ob C C bs mp f off u a b c d false := by
    have hfa : Fr (fun _ => False) w ((w.alloc (.cells #[.int .i64 1, .int .i64 lo, .int .i64 hi, .int .i64 off] 24)).alloc (.cells #[.int .u32 u, .int .i64 a, .int .i64 b, .int .i64 c, .int .i64 d, .bool false] 26)) := fr_al (fr_al (Fr.refl _ _) _) _
    obtain ⟨b1, b2⟩ := box_two (w := w) (A := #[.int .i64 1, .int .i64 lo, .int .i64 hi, .int .i64 off]) (B := #[.int .u32 u, .int .i64 a, .int .i64 b, .int .i64 c, .int .i64 d, .bool false]) (t := 24) (u := 26) (Fr.refl _ _)
    exact ⟨h.quiet hfa, hfa.mono (fun _ _ x => x.elim), by simp, fun b hb => .inl hb, b1 3 _ rfl, b2 0 _ rfl, b2 1 _ rfl, b2 2 _ rfl, b2 3 _ rfl, b2 4 _ rfl, b2 5 _ rfl⟩
  have HP0 := Lib.hid hp0
  have HS : Hid (∀ W, Calls Try.prog 11 #[.int .i64 4, .bool false] W fun r w' => r = .returned (.bool true) ∧ W = w') := Lib.hid (fun W => storable_of 4 false W)
  have HR := Lib.hid (reach_ok hp0.m.s lo hi off 4 (by omega) (by omega) (by omega) h3 h4 (by omega))
  have HFG := Lib.hid (fun (W : World) (hW : MP N W sb ob C bs mp f) => forget_mp hW off (by omega))
  have HL1 := Lib.hid l1
  have HL2 := Lib.hid l2
  have HL3 := Lib.hid l3
  have HL4 := Lib.hid l4
  have HB2 := Lib.hid h2
  have HSL := Lib.hid hs
  clear h hp0 l1 l2 l3 l4 h2 hs
  go_enter Try.func8, Try.ntmps8
  go_wp2_with (first
    | (go_at_call 11; (with_reducible refine (HS.out _).mono ?_); rintro r w1 ⟨rfl, rfl⟩)
    | (go_at_call 12; (with_reducible refine HR.out.mono ?_); rintro r w2 ⟨rfl, hf2⟩; have hp2 := HP0.out.quiet hf2; have HP2 := Lib.hid hp2; have z3 := hp2.z3; have v5 := hp2.v5; have v0 := hp2.v0; clear hf2 hp2))
  have HPW := HP2
  go_still_tail 6, (by kernel_rfl)
  change wpList _ _ _ _ _ w2.drew
  have HP3 : Hid (PutM N w w2.drew sb ob C C bs mp f off u a b c d false) := Lib.hid (HPW.out.quiet ((Fr.refl (fun _ => False) w2).drewN 1))
  generalize w2.drew = w3b at *
  have HC3 := Lib.hid (HFG.out _ HP3.out.m)
  go_wp2_with (go_at_call 13; (with_reducible refine HC3.out.mono ?_); rintro r w4 ⟨rfl, hm4, hf4⟩; have HP4 := Lib.hid (HP3.out.forget HL4.out hm4 hf4); clear hm4 hf4)
  go_loopw [42] (fun q wl => ∃ (k : Nat) (C' : Option Ch), q = .int .i64 k ∧ k ≤ 4 ∧ Hid (PutM N w wl sb ob C C' (putB bs off u k) mp (forgF f off) off u a b c d false)) (fun q _ => 4 - (intOf q).toNat)
  case atStart => exact ⟨0, C, rfl, Nat.zero_le _, HP4⟩
  case round =>
    obtain ⟨k, C', rfl, hk, HW⟩ := hrel
    have z3' := HW.out.z3
    have v0' := HW.out.v0
    have v5' := HW.out.v5
    by_cases hlt : k < 4
    · have t0 : (0 : Int) ≤ k := by omega
      have t1 : (k : Int) < 4 := by omega
      have HST : Hid (∀ (j v : Int) (W : World), j = (off : Int) + k → Fr (fun _ => False) wr W → Calls Try.prog 14 #[.pointer (some ⟨ob, 0, none⟩), .int .i64 j, .int .u8 v] W fun r w' => r = .returned (.tuple #[]) ∧ ∃ C'', PutM N w w' sb ob C C'' ((putB bs off u k).set (off + k) ⟨v, true⟩) mp (forgF f off) off u a b c d false) := Lib.hid (fun j v W hj hW => by
        rw [hj]
        have hq := HW.out.quiet hW
        have hl := putB_len bs off u k
        have hb := HB2.out
        have hsl := HSL.out
        have := set_mp hq.m (by rw [hl]; exact hsl) (off + k) (by rw [hl]; omega) v
        rw [Int.natCast_add] at this
        refine this.mono fun r w' hr => ?_
        obtain ⟨e, C'', a1, a2, a3⟩ := hr
        exact ⟨e, C'', hq.set HL2.out HL3.out a1 a2 a3⟩)
      have w8 : IntKind.i64.wrap (8 * (k : Int)) = 8 * k := by rw [IntKind.wrap_i64]; omega
      have t8 : (0 : Int) ≤ 8 * k := by omega
      have hb := HB2.out
      have hsl := HSL.out
      have wo : IntKind.i64.wrap ((off : Int) + k) = off + k := by rw [IntKind.wrap_i64]; omega
      have t9 : 8 * (k : Int) ≤ 32 := by omega
      have hbV : Hid (byt u k = (IntKind.u8.wrap (u / 2 ^ (8 * (k : Int)).toNat))) := Lib.hid rfl
      go_wp2
      go_region_with (go_at_call 14; (with_reducible refine (HST.out ((off : Int) + k) (IntKind.u8.wrap (u / 2 ^ (8 * (k : Int)).toNat)) _ rfl (fr_drew (Fr.refl _ _))).mono ?_); rintro r w5 ⟨rfl, C5, h5'⟩)
      all_goals
        rw [← hbV.out] at h5'
        have HW5 := Lib.hid h5'
        clear h5'
        go_wp2
        go_roundw
        case rel => exact ⟨k + 1, C5, by go_num, by omega, HW5⟩
        case measure => simp [intOf]; omega
    · obtain rfl : k = 4 := by omega
      go_wp2
      go_ret
      have hq := HW.out.m
      exact ⟨rfl, C', mp, ⟨hq.s, hq.b, hq.d, hq.p.mono (by omega), hq.q⟩, HW.out.fr, fun b hb => (HW.out.ch b hb).imp id (fun q => by omega), fun b hb => .inl hb⟩
set_option maxRecDepth 100000 in
set_option maxHeartbeats 4000000 in
theorem put_ptrM {N : Nat} {w : World} {sb ob : Nat} {C : Option Ch} {bs : List BC} {mp : Value} {f : Int → PV} (h : MP N w sb ob C bs mp f) (hN : N ≤ 800) (hs : bs.length < 512) (lo hi : Int) (off : Nat) (h2 : off + 4 ≤ bs.length) (h3 : lo ≤ off) (h4 : (off : Int) + 4 ≤ hi) (u a b c d : Int) (hu : 0 ≤ u ∧ u < 4294967296) :
    Calls Try.prog 8 #[.pointer (some ⟨sb, 0, none⟩), .agg #[.int .i64 1, .int .i64 lo, .int .i64 hi, .int .i64 off], .int .i64 4, .agg #[.int .u32 u, .int .i64 a, .int .i64 b, .int .i64 c, .int .i64 d, .bool true]] w (PutP N sb ob C mp (putB bs off 0 4) (keepF (forgF f off) off ⟨a, b, c, d⟩) w) := by
  obtain ⟨l1, l2, l3, l4⟩ := h.lt (by omega)
  have hp0 : PutM N w ((w.alloc (.cells #[.int .i64 1, .int .i64 lo, .int .i64 hi, .int .i64 off] 24)).alloc (.cells #[.int .u32 u, .int .i64 a, .int .i64 b, .int .i64 c, .int .i64 d, .bool true] 26)) sb ob C C bs mp f off u a b c d true := by
    have hfa : Fr (fun _ => False) w ((w.alloc (.cells #[.int .i64 1, .int .i64 lo, .int .i64 hi, .int .i64 off] 24)).alloc (.cells #[.int .u32 u, .int .i64 a, .int .i64 b, .int .i64 c, .int .i64 d, .bool true] 26)) := fr_al (fr_al (Fr.refl _ _) _) _
    obtain ⟨b1, b2⟩ := box_two (w := w) (A := #[.int .i64 1, .int .i64 lo, .int .i64 hi, .int .i64 off]) (B := #[.int .u32 u, .int .i64 a, .int .i64 b, .int .i64 c, .int .i64 d, .bool true]) (t := 24) (u := 26) (Fr.refl _ _)
    exact ⟨h.quiet hfa, hfa.mono (fun _ _ x => x.elim), by simp, fun b hb => .inl hb, b1 3 _ rfl, b2 0 _ rfl, b2 1 _ rfl, b2 2 _ rfl, b2 3 _ rfl, b2 4 _ rfl, b2 5 _ rfl⟩
  have HP0 := Lib.hid hp0
  have HS : Hid (∀ W, Calls Try.prog 11 #[.int .i64 4, .bool true] W fun r w' => r = .returned (.bool true) ∧ W = w') := Lib.hid (fun W => storable_of 4 true W)
  have HR := Lib.hid (reach_ok hp0.m.s lo hi off 4 (by omega) (by omega) (by omega) h3 h4 (by omega))
  have HFG := Lib.hid (fun (W : World) (hW : MP N W sb ob C bs mp f) => forget_mp hW off (by omega))
  have HL1 := Lib.hid l1
  have HL2 := Lib.hid l2
  have HL3 := Lib.hid l3
  have HL4 := Lib.hid l4
  have HB2 := Lib.hid h2
  have HSL := Lib.hid hs
  have HZF : Hid (∀ W, Fr (fun _ => False) ((w.alloc (.cells #[.int .i64 1, .int .i64 lo, .int .i64 hi, .int .i64 off] 24)).alloc (.cells #[.int .u32 u, .int .i64 a, .int .i64 b, .int .i64 c, .int .i64 d, .bool true] 26)) W → W.frozen? ⟨w.heap.size + 1, 0, none⟩ = false) := Lib.hid (fun W hW => by
    have e : (w.alloc (.cells #[.int .i64 1, .int .i64 lo, .int .i64 hi, .int .i64 off] 24)).heap.size = w.heap.size + 1 := by simp
    have hc := fcell (w.alloc (.cells #[.int .i64 1, .int .i64 lo, .int .i64 hi, .int .i64 off] 24)) #[.int .u32 u, .int .i64 a, .int .i64 b, .int .i64 c, .int .i64 d, .bool true] 26 0 _ rfl
    have hz := World.frozen?_alloc_new (w.alloc (.cells #[.int .i64 1, .int .i64 lo, .int .i64 hi, .int .i64 off] 24)) #[.int .u32 u, .int .i64 a, .int .i64 b, .int .i64 c, .int .i64 d, .bool true] 26 0
    rw [e] at hc hz
    exact (hW.frozen hc id).trans hz)
  clear h hp0 l1 l2 l3 l4 h2 hs
  go_enter Try.func8, Try.ntmps8
  go_wp2_with (first
    | (go_at_call 11; (with_reducible refine (HS.out _).mono ?_); rintro r w1 ⟨rfl, rfl⟩)
    | (go_at_call 12; (with_reducible refine HR.out.mono ?_); rintro r w2 ⟨rfl, hf2⟩; have hp2 := HP0.out.quiet hf2; have HP2 := Lib.hid hp2; have z3 := hp2.z3; have v5 := hp2.v5; have v0 := hp2.v0; have zf0 := HZF.out _ hf2; clear hf2 hp2))
  have HF0 := Lib.hid (Fr.setCell (F := fun j => j = w.heap.size + 1) w2 ⟨w.heap.size + 1, 0, none⟩ (.int .u32 0) rfl)
  have HPW : Hid (PutM N w (w2.setCell ⟨w.heap.size + 1, 0, none⟩ (.int .u32 0)) sb ob C C bs mp f off 0 a b c d true) := Lib.hid (HP2.out.zero HL1.out HL2.out (fun b hb e => by have := HL3.out b hb; omega) HL4.out)
  have z3' := HPW.out.z3
  have v5' := HPW.out.v5
  clear z3 v5 v0 zf0
  generalize w2.setCell ⟨w.heap.size + 1, 0, none⟩ (.int .u32 0) = w3 at *
  go_still_tail 6, (by kernel_rfl)
  change wpList _ _ _ _ _ w3.drew
  have HP3 : Hid (PutM N w w3.drew sb ob C C bs mp f off 0 a b c d true) := Lib.hid (HPW.out.quiet ((Fr.refl (fun _ => False) w3).drewN 1))
  generalize w3.drew = w3b at *
  have HC3 := Lib.hid (HFG.out _ HP3.out.m)
  go_wp2_with (go_at_call 13; (with_reducible refine HC3.out.mono ?_); rintro r w4 ⟨rfl, hm4, hf4⟩; have HP4 := Lib.hid (HP3.out.forget HL4.out hm4 hf4); clear hm4 hf4)
  go_loopw [42] (fun q wl => ∃ (k : Nat) (C' : Option Ch), q = .int .i64 k ∧ k ≤ 4 ∧ Hid (PutM N w wl sb ob C C' (putB bs off 0 k) mp (forgF f off) off 0 a b c d true)) (fun q _ => 4 - (intOf q).toNat)
  case atStart => exact ⟨0, C, rfl, Nat.zero_le _, HP4⟩
  case round =>
    obtain ⟨k, C', rfl, hk, HW⟩ := hrel
    have z3' := HW.out.z3
    have v0' := HW.out.v0
    have v5' := HW.out.v5
    by_cases hlt : k < 4
    · have t0 : (0 : Int) ≤ k := by omega
      have t1 : (k : Int) < 4 := by omega
      have HST : Hid (∀ (j v : Int) (W : World), j = (off : Int) + k → Fr (fun _ => False) wr W → Calls Try.prog 14 #[.pointer (some ⟨ob, 0, none⟩), .int .i64 j, .int .u8 v] W fun r w' => r = .returned (.tuple #[]) ∧ ∃ C'', PutM N w w' sb ob C C'' ((putB bs off 0 k).set (off + k) ⟨v, true⟩) mp (forgF f off) off 0 a b c d true) := Lib.hid (fun j v W hj hW => by
        rw [hj]
        have hq := HW.out.quiet hW
        have hl := putB_len bs off 0 k
        have hb := HB2.out
        have hsl := HSL.out
        have := set_mp hq.m (by rw [hl]; exact hsl) (off + k) (by rw [hl]; omega) v
        rw [Int.natCast_add] at this
        refine this.mono fun r w' hr => ?_
        obtain ⟨e, C'', a1, a2, a3⟩ := hr
        exact ⟨e, C'', hq.set HL2.out HL3.out a1 a2 a3⟩)
      have w8 : IntKind.i64.wrap (8 * (k : Int)) = 8 * k := by rw [IntKind.wrap_i64]; omega
      have t8 : (0 : Int) ≤ 8 * k := by omega
      have hb := HB2.out
      have hsl := HSL.out
      have wo : IntKind.i64.wrap ((off : Int) + k) = off + k := by rw [IntKind.wrap_i64]; omega
      have t9 : 8 * (k : Int) ≤ 32 := by omega
      have hbV : Hid (byt 0 k = (IntKind.u8.wrap 0)) := Lib.hid (by unfold byt; rw [Int.zero_ediv])
      go_wp2
      go_region_with (go_at_call 14; (with_reducible refine (HST.out ((off : Int) + k) (IntKind.u8.wrap 0) _ rfl (fr_drew (Fr.refl _ _))).mono ?_); rintro r w5 ⟨rfl, C5, h5'⟩)
      all_goals
        rw [← hbV.out] at h5'
        have HW5 := Lib.hid h5'
        clear h5'
        go_wp2
        go_roundw
        case rel => exact ⟨k + 1, C5, by go_num, by omega, HW5⟩
        case measure => simp [intOf]; omega
    · obtain rfl : k = 4 := by omega
      go_wp2
      have v1' := HW.out.v1
      have v2' := HW.out.v2
      have v3' := HW.out.v3
      have v4' := HW.out.v4
      go_still_tail 7, (by kernel_rfl)
      change wpList _ _ _ _ _ wr.drew
      have HP6 : Hid (PutM N w wr.drew sb ob C C' (putB bs off 0 4) mp (forgF f off) off 0 a b c d true) := Lib.hid (HW.out.quiet ((Fr.refl (fun _ => False) wr).drewN 1))
      generalize wr.drew = w6 at *
      have HK : Hid (Calls Try.prog 15 #[.pointer (some ⟨ob, 0, none⟩), .int .i64 off, .agg #[.int .i64 a, .int .i64 b, .int .i64 c, .int .i64 d]] w6 fun r w' => r = .returned (.tuple #[]) ∧ ∃ mp', MP (N + 1) w' sb ob C' (putB bs off 0 4) mp' (keepF (forgF f off) off ⟨a, b, c, d⟩) ∧ Fr (fun j => j = ob ∨ mp = .map (some j)) w6 w' ∧ (∀ b, mp' = .map (some b) → mp = .map (some b) ∨ w6.heap.size ≤ b)) := Lib.hid (keep_mp HP6.out.m hN off (by have := HSL.out; have := HB2.out; omega) ⟨a, b, c, d⟩ (by unfold forgF; rw [if_pos (by omega)]) (by rw [putB_len]; have := HB2.out; omega))
      go_wp2_with (go_at_call 15; (with_reducible refine HK.out.mono ?_); rintro r w7 ⟨rfl, mp', hm7, hf7, hn7⟩; have HM7 := Lib.hid hm7; have HF7 := Lib.hid hf7; have HN7 := Lib.hid hn7; clear hm7 hf7 hn7)
      go_ret
      refine ⟨rfl, C', mp', HM7.out, HP6.out.fr.trans' HF7.out (fun j _ e => e.elim Or.inl (fun e => Or.inr (Or.inr e))), fun b hb => (HP6.out.ch b hb).imp id (fun q => by omega), fun b hb => (HN7.out b hb).imp id (fun q => by have := HP6.out.sz; omega)⟩
end Go.Proofs.Ytonkfgjmienalaa
