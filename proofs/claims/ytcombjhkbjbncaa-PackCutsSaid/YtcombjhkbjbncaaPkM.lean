/-
  Pack (layer 32): what a decoder answers.
-/
import Derived.Test.YtcombjhkbjbncaaPkM0
namespace Go.Proofs.Ytcombjhkbjbncaa
open Go.RowKit
set_option linter.unusedVariables false
set_option linter.unusedSimpArgs false
set_option linter.unnecessarySimpa false
theorem qzR_api_Errno (w : World) : ∃ w', (Instr.alloc 28 true (.tuple #[])).run Try.prog w = .ok (.pointer (some ⟨w.heap.size, 0, none⟩)) w' ∧ (Fr (fun _ => False) w w' ∧ Bx w' w.heap.size #[.int .i64 0] 28) := ⟨w.alloc (.cells #[.int .i64 0] 28), by simp [go_sem], fr_al (Fr.refl _ _) _, Bx.new _ _ _⟩
theorem qzR_pack_reader (w : World) : ∃ w', (Instr.alloc 46 true (.tuple #[])).run Try.prog w = .ok (.pointer (some ⟨w.heap.size, 0, none⟩)) w' ∧ (Fr (fun _ => False) w w' ∧ Bx w' w.heap.size #[.slice none 0 0] 46) := ⟨w.alloc (.cells #[.slice none 0 0] 46), by simp [go_sem], fr_al (Fr.refl _ _) _, Bx.new _ _ _⟩
theorem qk_pack_reader_image (w : World) (vs : Array Value) : (callFunc 18 vs).run Try.prog w = .ok (.enter 18 vs) w := by simp [go_sem]
theorem qk_pack_Encode (w : World) (vs : Array Value) : (callFunc 8 vs).run Try.prog w = .ok (.enter 8 vs) w := by simp [go_sem]
theorem qk_bytes_Equal (w : World) (vs : Array Value) : (callFunc 20 vs).run Try.prog w = .ok (.enter 20 vs) w := by simp [go_sem]
end Go.Proofs.Ytcombjhkbjbncaa
namespace Go.Proofs.Ytcombjhkbjbncaa.D
open Go.RowKit
set_option linter.unusedVariables false
set_option linter.unusedSimpArgs false
set_option maxRecDepth 100000 in
set_option maxHeartbeats 1000000 in
theorem t_decode (a : Option Addr) (c : Nat) (l : List Int) (hll : l.length ≤ 262144) (hc : l.length ≤ c) (w : World) (ha : NumAt .u8 w.heap.size w a l) (hby : Byt l) : Calls Try.prog 10 #[.slice a l.length c] w fun e w' => (∃ g : Img, Is l g ∧ ∃ (ca da : Option Addr) (cc dc : Nat), e = .returned (.tuple #[.agg #[.slice ca g.code.length cc, .slice da g.data.length dc, .int .i64 g.lim, .int .i64 g.notes], .int .i64 0]) ∧ NumAt .u32 w'.heap.size w' ca g.code ∧ NumAt .u8 w'.heap.size w' da g.data ∧ g.data.length ≤ dc ∧ Fr (fun _ => False) w w') ∨ ((∀ g, ¬Is l g) ∧ e = .returned (.tuple #[.agg #[.slice none 0 0, .slice none 0 0, .int .i64 0, .int .i64 0], .int .i64 3]) ∧ Fr (fun _ => False) w w') := by
  have ff := Fr.refl (fun _ => False) w
  refine calls_tw Try.func10 rfl rfl (Nat.le_of_ble_eq_true rfl) ?_
  refine TW.sreg ?_
  have lw1 := ff.size
  refine O.allocR rfl rfl rfl rfl (qzR_api_Image w) ?_
  rintro wa1 ⟨fa1, bx1⟩
  replace ha := ha.fr fa1
  replace ff := ff.trans fa1
  have lt2_bx1 := bx1.lt
  have lw2 := ff.size
  refine O.allocR rfl rfl rfl rfl (qzR_api_Errno wa1) ?_
  rintro wa2 ⟨fa2, bx2⟩
  replace bx1 := bx1.fr fa2 id
  replace ha := ha.fr fa2
  replace ff := ff.trans fa2
  obtain ⟨gE, hgE⟩ : ∃ gE, gE = wa1.heap.size := ⟨_, rfl⟩
  rw [← hgE] at bx2
  rw [← hgE]
  refine WL.nil ?_
  refine TW.seq ?_
  refine TW.sreg ?_
  refine WL.op rfl rfl rfl (Go.Proofs.Ytcombjhkbjbncaa.D.W.quiet_move rfl rfl) ?_
  refine O.len rfl rfl rfl rfl rfl (qn_s_uint8 _ _ _ _) ?_
  refine WL.op rfl rfl rfl (Go.Proofs.Ytcombjhkbjbncaa.D.W.quiet_bin rfl rfl rfl (fun W => qb_gtr_int W _ _ _ _)) ?_
  refine O.split (fun hb => by exfalso; revert hb; first | (simp; done) | (simp; omega)) (fun hb => ?_)
  refine WL.nil ?_
  refine TW.cond rfl (fun hb => by cases hb) (fun _ => ?_)
  refine TW.skip ?_
  refine TW.sreg ?_
  refine O.mf (vs := #[]) (us := #[_, _]) rfl rfl rfl rfl rfl rfl (mf_any _ _ _ _) ?_
  refine O.defer rfl rfl rfl rfl ?_
  refine WL.nil ?_
  refine TW.sreg ?_
  refine WL.op rfl rfl rfl (Go.Proofs.Ytcombjhkbjbncaa.D.W.quiet_move rfl rfl) ?_
  have lt3_bx1 := bx1.lt
  have lt3_bx2 := bx2.lt
  have lw3 := ff.size
  refine O.allocR rfl rfl rfl rfl (qzR_pack_reader wa2) ?_
  rintro wa3 ⟨fa3, bx3⟩
  replace bx1 := bx1.fr fa3 id
  replace bx2 := bx2.fr fa3 id
  replace ha := ha.fr fa3
  replace ff := ff.trans fa3
  obtain ⟨gR, hgR⟩ : ∃ gR, gR = wa2.heap.size := ⟨_, rfl⟩
  rw [← hgR] at bx3
  rw [← hgR]
  refine O.storeR rfl rfl rfl rfl rfl (qsA_pack_reader wa3 _ _ _ _ _ bx3) ?_
  rintro wa4 ⟨fa4, bx3x⟩
  replace bx1 := bx1.fr fa4 (fun e => by omega)
  replace bx2 := bx2.fr fa4 (fun e => by omega)
  replace ha := ha.frZ fa4 (fun q hq e => by omega)
  replace ff := ff.trans' fa4 (fun q hq e => by omega)
  clear bx3
  have bx3 := bx3x
  clear bx3x
  refine WL.nil ?_
  refine TW.sreg ?_
  have hR4 := bx3.lt
  refine WL.callP (hr := (t_image w.heap.size gR (by omega) a c l (by omega) hc _ bx3 ha hby)) rfl rfl rfl rfl rfl (fun W => qk_pack_reader_image W _) ?_
  rintro e wI h9
  rcases h9 with ⟨hp, rfl, fI⟩ | ⟨im, hp, hwf, ca, da, cc, dc, rfl, hrc, hrd, fI⟩
  · refine .inr ⟨_, rfl, fun a k => ?_⟩
    show Leaves _ _ _ _ _ _ _
    rw [k.defers]
    exact lv_pan w.heap.size gE (by omega) (k.has 2 _ rfl) (k.has 3 _ rfl) (bx1.fr fI (fun e => by omega)) (bx2.fr fI (fun e => by omega)) (fun w' hF => .inr ⟨(fun g h => by have := parse_enc h.1 h.2.1 []; rw [List.append_nil, h.2.2, hp] at this; cases this), rfl, (ff.trans' fI (fun q hq e => by omega)).trans' hF (fun q hq e => by omega)⟩)
  refine .inl ⟨_, rfl, ?_⟩
  replace ff := ff.trans' fI (fun q hq e => by omega)
  replace bx1 := bx1.fr fI (fun e => by omega)
  replace bx2 := bx2.fr fI (fun e => by omega)
  replace ha := ha.frZ fI (fun q hq e => by omega)
  have hwsI := fI.size
  by_cases hok : im.ok
  · skip
    refine O.storeR rfl rfl rfl rfl rfl (qsA_api_Image wI _ _ _ _ _ _ _ _ _ _ _ _ _ bx1) ?_
    rintro wa5 ⟨fa5, bx1x⟩
    replace bx2 := bx2.fr fa5 (fun e => by omega)
    replace ha := ha.frZ fa5 (fun q hq e => by omega)
    replace hrc := Row.fr hrc fa5 (fun k hk e => by have := (Row.lt hrc k hk).1; omega)
    replace hrd := Row.fr hrd fa5 (fun k hk e => by have := (Row.lt hrd k hk).1; omega)
    replace ff := ff.trans' fa5 (fun q hq e => by omega)
    clear bx1
    have bx1 := bx1x
    clear bx1x
    refine WL.nil ?_
    refine TW.sreg ?_
    refine WL.ld rfl rfl rfl rfl rfl (qlB_api_Image _ _ _ _ _ _ _ _ _ _ _ bx1) ?_
    refine WL.call (hr := (t_encode ca da cc dc im hwf (Row.capLe hrd).2.1 _ (Row.num hrc) (Row.num hrd) hok)) rfl rfl rfl rfl rfl (fun W => qk_pack_Encode W _) ?_
    rintro e w6 ⟨vE, rfl, hvE, f6⟩
    refine ⟨_, rfl, ?_⟩
    replace bx1 := bx1.fr f6 id
    replace bx2 := bx2.fr f6 id
    replace ha := ha.fr f6
    replace hrc := Row.fr hrc f6 (fun _ _ => id)
    replace hrd := Row.fr hrd f6 (fun _ _ => id)
    replace ff := ff.trans f6
    obtain ⟨va, vc, rfl⟩ := Row.form hvE
    refine WL.op rfl rfl rfl (Go.Proofs.Ytcombjhkbjbncaa.D.W.quiet_move rfl rfl) ?_
    refine O.ext rfl rfl rfl rfl rfl rfl ?_
    refine O.ext rfl rfl rfl rfl rfl rfl ?_
    refine WL.op rfl rfl rfl (Go.Proofs.Ytcombjhkbjbncaa.D.W.quiet_assign rfl rfl) ?_
    refine WL.op rfl rfl rfl (Go.Proofs.Ytcombjhkbjbncaa.D.W.quiet_assign rfl rfl) ?_
    refine WL.nil ?_
    refine TW.sreg ?_
    refine WL.op rfl rfl rfl (Go.Proofs.Ytcombjhkbjbncaa.D.W.quiet_move rfl rfl) ?_
    refine WL.op rfl rfl rfl (Go.Proofs.Ytcombjhkbjbncaa.D.W.quiet_move rfl rfl) ?_
    refine WL.call (hr := (t_beq _ _ a va c vc l (enc im) _ ha (Row.num hvE))) rfl rfl rfl rfl rfl (fun W => qk_bytes_Equal W _) ?_
    rintro e w7 ⟨rfl, f7⟩
    refine ⟨_, rfl, ?_⟩
    replace bx1 := bx1.fr f7 id
    replace bx2 := bx2.fr f7 id
    replace ha := ha.fr f7
    replace hrc := Row.fr hrc f7 (fun _ _ => id)
    replace hrd := Row.fr hrd f7 (fun _ _ => id)
    replace ff := ff.trans f7
    refine WL.callP (hr := (t_require _ _)) rfl rfl rfl rfl rfl (fun W => qk_pack_require W _) ?_
    rintro e w5 h9
    rcases h9 with ⟨hq, rfl, f5⟩ | ⟨hq, rfl, f5⟩
    · refine .inr ⟨_, rfl, fun a k => ?_⟩
      show Leaves _ _ _ _ _ _ _
      rw [k.defers]
      exact lv_pan w.heap.size gE (by omega) (k.has 2 _ rfl) (k.has 3 _ rfl) (bx1.fr f5 id) (bx2.fr f5 id) (fun w' hF => .inr ⟨(fun g h => by have h9 := parse_enc h.1 h.2.1 []; rw [List.append_nil, h.2.2, hp] at h9; have h8 := Option.some.inj h9; subst h8; exact of_decide_eq_false hq (by rw [h.2.2])), rfl, (ff.trans' f5 (fun q hq e => e.elim)).trans' hF (fun q hq e => by omega)⟩)
    refine .inl ⟨_, rfl, ?_⟩
    replace bx1 := bx1.fr f5 id
    replace bx2 := bx2.fr f5 id
    replace ha := ha.fr f5
    replace hrc := Row.fr hrc f5 (fun _ _ => id)
    replace hrd := Row.fr hrd f5 (fun _ _ => id)
    replace ff := ff.trans f5
    have hl : enc im = l := ((u8s_inj hby (enc_byt hwf.data)).1 (of_decide_eq_true hq)).symm
    refine WL.nil ?_
    refine TW.sreg ?_
    refine WL.ld rfl rfl rfl rfl rfl (qlB_api_Image _ _ _ _ _ _ _ _ _ _ _ bx1) ?_
    refine O.storeR rfl rfl rfl rfl rfl (qsA_api_Image w5 _ _ _ _ _ _ _ _ _ _ _ _ _ bx1) ?_
    rintro wa6 ⟨fa6, bx1x⟩
    replace bx2 := bx2.fr fa6 (fun e => by omega)
    replace ha := ha.frZ fa6 (fun q hq e => by omega)
    replace hrc := Row.fr hrc fa6 (fun k hk e => by have := (Row.lt hrc k hk).1; omega)
    replace hrd := Row.fr hrd fa6 (fun k hk e => by have := (Row.lt hrd k hk).1; omega)
    replace ff := ff.trans' fa6 (fun q hq e => by omega)
    clear bx1
    have bx1 := bx1x
    clear bx1x
    refine O.storeR rfl rfl rfl rfl rfl (qsA_api_Errno wa6 _ _ _ bx2) ?_
    rintro wa7 ⟨fa7, bx2x⟩
    replace bx1 := bx1.fr fa7 (fun e => by omega)
    replace ha := ha.frZ fa7 (fun q hq e => by omega)
    replace hrc := Row.fr hrc fa7 (fun k hk e => by have := (Row.lt hrc k hk).1; omega)
    replace hrd := Row.fr hrd fa7 (fun k hk e => by have := (Row.lt hrd k hk).1; omega)
    replace ff := ff.trans' fa7 (fun q hq e => by omega)
    clear bx2
    have bx2 := bx2x
    clear bx2x
    refine WL.nil ?_
    refine TW.rt ?_
    refine Xw.retL (fun a k => ?_)
    exact lv_idle w.heap.size gE (k.has 2 _ rfl) (k.has 3 _ rfl) bx1 bx2 (.inl ⟨im, ⟨hok, hwf, hl⟩, ca, da, cc, dc, rfl, Row.num hrc, Row.num hrd, (Row.capLe hrd).2.1, ff⟩)
  · skip
    refine O.storeR rfl rfl rfl rfl rfl (qsA_api_Image wI _ _ _ _ _ _ _ _ _ _ _ _ _ bx1) ?_
    rintro wa8 ⟨fa8, bx1x⟩
    replace bx2 := bx2.fr fa8 (fun e => by omega)
    replace ha := ha.frZ fa8 (fun q hq e => by omega)
    replace hrc := Row.fr hrc fa8 (fun k hk e => by have := (Row.lt hrc k hk).1; omega)
    replace hrd := Row.fr hrd fa8 (fun k hk e => by have := (Row.lt hrd k hk).1; omega)
    replace ff := ff.trans' fa8 (fun q hq e => by omega)
    clear bx1
    have bx1 := bx1x
    clear bx1x
    refine WL.nil ?_
    refine TW.sreg ?_
    refine WL.ld rfl rfl rfl rfl rfl (qlB_api_Image _ _ _ _ _ _ _ _ _ _ _ bx1) ?_
    refine WL.call (hr := (t_encode_no ca da cc dc im _ hok)) rfl rfl rfl rfl rfl (fun W => qk_pack_Encode W _) ?_
    rintro e w6 ⟨rfl, f6⟩
    refine ⟨_, rfl, ?_⟩
    replace bx1 := bx1.fr f6 id
    replace bx2 := bx2.fr f6 id
    replace ha := ha.fr f6
    replace hrc := Row.fr hrc f6 (fun _ _ => id)
    replace hrd := Row.fr hrd f6 (fun _ _ => id)
    replace ff := ff.trans f6
    refine WL.op rfl rfl rfl (Go.Proofs.Ytcombjhkbjbncaa.D.W.quiet_move rfl rfl) ?_
    refine O.ext rfl rfl rfl rfl rfl rfl ?_
    refine O.ext rfl rfl rfl rfl rfl rfl ?_
    refine WL.op rfl rfl rfl (Go.Proofs.Ytcombjhkbjbncaa.D.W.quiet_assign rfl rfl) ?_
    refine WL.op rfl rfl rfl (Go.Proofs.Ytcombjhkbjbncaa.D.W.quiet_assign rfl rfl) ?_
    refine WL.nil ?_
    refine TW.sreg ?_
    refine WL.op rfl rfl rfl (Go.Proofs.Ytcombjhkbjbncaa.D.W.quiet_move rfl rfl) ?_
    refine WL.op rfl rfl rfl (Go.Proofs.Ytcombjhkbjbncaa.D.W.quiet_move rfl rfl) ?_
    refine WL.call (hr := (t_beq _ 0 a none c 0 l [] _ ha (fun j hj => absurd hj (Nat.not_lt_zero j)))) rfl rfl rfl rfl rfl (fun W => qk_bytes_Equal W _) ?_
    rintro e w7 ⟨rfl, f7⟩
    refine ⟨_, rfl, ?_⟩
    replace bx1 := bx1.fr f7 id
    replace bx2 := bx2.fr f7 id
    replace ha := ha.fr f7
    replace hrc := Row.fr hrc f7 (fun _ _ => id)
    replace hrd := Row.fr hrd f7 (fun _ _ => id)
    replace ff := ff.trans f7
    refine WL.callP (hr := (t_require _ _)) rfl rfl rfl rfl rfl (fun W => qk_pack_require W _) ?_
    rintro e w5 h9
    rcases h9 with ⟨hq, rfl, f5⟩ | ⟨hq, rfl, f5⟩
    · refine .inr ⟨_, rfl, fun a k => ?_⟩
      show Leaves _ _ _ _ _ _ _
      rw [k.defers]
      exact lv_pan w.heap.size gE (by omega) (k.has 2 _ rfl) (k.has 3 _ rfl) (bx1.fr f5 id) (bx2.fr f5 id) (fun w' hF => .inr ⟨(fun g h => by have h9 := parse_enc h.1 h.2.1 []; rw [List.append_nil, h.2.2, hp] at h9; have h8 := Option.some.inj h9; subst h8; exact hok h.1), rfl, (ff.trans' f5 (fun q hq e => e.elim)).trans' hF (fun q hq e => by omega)⟩)
    refine .inl ⟨_, rfl, ?_⟩
    replace bx1 := bx1.fr f5 id
    replace bx2 := bx2.fr f5 id
    replace ha := ha.fr f5
    replace hrc := Row.fr hrc f5 (fun _ _ => id)
    replace hrd := Row.fr hrd f5 (fun _ _ => id)
    replace ff := ff.trans f5
    refine WL.nil ?_
    refine TW.sreg ?_
    refine WL.ld rfl rfl rfl rfl rfl (qlB_api_Image _ _ _ _ _ _ _ _ _ _ _ bx1) ?_
    refine O.storeR rfl rfl rfl rfl rfl (qsA_api_Image w5 _ _ _ _ _ _ _ _ _ _ _ _ _ bx1) ?_
    rintro wa9 ⟨fa9, bx1x⟩
    replace bx2 := bx2.fr fa9 (fun e => by omega)
    replace ha := ha.frZ fa9 (fun q hq e => by omega)
    replace hrc := Row.fr hrc fa9 (fun k hk e => by have := (Row.lt hrc k hk).1; omega)
    replace hrd := Row.fr hrd fa9 (fun k hk e => by have := (Row.lt hrd k hk).1; omega)
    replace ff := ff.trans' fa9 (fun q hq e => by omega)
    clear bx1
    have bx1 := bx1x
    clear bx1x
    refine O.storeR rfl rfl rfl rfl rfl (qsA_api_Errno wa9 _ _ _ bx2) ?_
    rintro wa10 ⟨fa10, bx2x⟩
    replace bx1 := bx1.fr fa10 (fun e => by omega)
    replace ha := ha.frZ fa10 (fun q hq e => by omega)
    replace hrc := Row.fr hrc fa10 (fun k hk e => by have := (Row.lt hrc k hk).1; omega)
    replace hrd := Row.fr hrd fa10 (fun k hk e => by have := (Row.lt hrd k hk).1; omega)
    replace ff := ff.trans' fa10 (fun q hq e => by omega)
    clear bx2
    have bx2 := bx2x
    clear bx2x
    refine WL.nil ?_
    refine TW.rt ?_
    refine Xw.retL (fun a k => ?_)
    exfalso
    have h0 := congrArg List.length (of_decide_eq_true hq)
    rw [show l = [] from List.eq_nil_of_length_eq_zero (by simpa [u8s] using h0), parse_bad (by simp)] at hp
    cases hp
end Go.Proofs.Ytcombjhkbjbncaa.D
