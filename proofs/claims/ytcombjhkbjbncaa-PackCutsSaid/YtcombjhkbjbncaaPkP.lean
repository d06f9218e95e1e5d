/-
  Pack (layer 32): the walk of PackWrites.
-/
import Derived.Test.YtcombjhkbjbncaaPkN
namespace Go.Proofs.Ytcombjhkbjbncaa
open Go.RowKit
set_option linter.unusedVariables false
set_option linter.unusedSimpArgs false
set_option linter.unnecessarySimpa false
theorem qk_rushlightlaw32_few (w : World) (vs : Array Value) : (callFunc 6 vs).run Try.prog w = .ok (.enter 6 vs) w := by simp [go_sem]
theorem qk_rushlightlaw32_awake (w : World) (vs : Array Value) : (callFunc 7 vs).run Try.prog w = .ok (.enter 7 vs) w := by simp [go_sem]
theorem qk_pack_Decode (w : World) (vs : Array Value) : (callFunc 10 vs).run Try.prog w = .ok (.enter 10 vs) w := by simp [go_sem]
theorem qk_rushlightlaw32_Same (w : World) (vs : Array Value) : (callFunc 12 vs).run Try.prog w = .ok (.enter 12 vs) w := by simp [go_sem]
theorem enc_small {g : Img} (h : g.code.length ≤ 300) (h' : g.data.length ≤ 3000) : (enc g).length ≤ 8000 := by
  have := enc_len g
  have := runs_len g.data
  omega
theorem dec_ok (a : Option Addr) (c : Nat) (l : List Int) (n : Nat) (hn : l.length = n) (hll : l.length ≤ 262144) (hc : l.length ≤ c) (w : World) (ha : NumAt .u8 w.heap.size w a l) (hby : Byt l) (g : Img) (hI : Is l g) : Calls Try.prog 10 #[.slice a n c] w fun e w' => ∃ (ca2 da2 : Option Addr) (cc2 dc2 : Nat), e = .returned (.tuple #[.agg #[.slice ca2 g.code.length cc2, .slice da2 g.data.length dc2, .int .i64 g.lim, .int .i64 g.notes], .int .i64 0]) ∧ NumAt .u32 w'.heap.size w' ca2 g.code ∧ NumAt .u8 w'.heap.size w' da2 g.data ∧ g.data.length ≤ dc2 ∧ Fr (fun _ => False) w w' := by
  subst hn
  refine (D.t_decode a c l hll hc w ha hby).mono fun e w' h => ?_
  rcases h with ⟨g', h1, ca, da, cc, dc, h2⟩ | ⟨h1, _⟩
  · have := h1.one hI
    subst this
    exact ⟨ca, da, cc, dc, h2⟩
  · exact absurd hI (h1 g)
theorem dec_no (a : Option Addr) (c : Nat) (l : List Int) (n : Nat) (hn : l.length = n) (hll : l.length ≤ 262144) (hc : l.length ≤ c) (w : World) (ha : NumAt .u8 w.heap.size w a l) (hby : Byt l) (hI : ∀ g, ¬Is l g) : Calls Try.prog 10 #[.slice a n c] w fun e w' => e = .returned (.tuple #[.agg #[.slice none 0 0, .slice none 0 0, .int .i64 0, .int .i64 0], .int .i64 3]) ∧ Fr (fun _ => False) w w' := by
  subst hn
  refine (D.t_decode a c l hll hc w ha hby).mono fun e w' h => ?_
  rcases h with ⟨g', h1, _⟩ | ⟨_, h1⟩
  · exact absurd h1 (hI g')
  · exact h1
theorem rdec_ok (a : Option Addr) (c : Nat) (l : List Int) (hll : l.length ≤ 5000) (w : World) (ha : NumAt .u8 w.heap.size w a l) (hby : Byt l) (g : Img) (hI : Is l g) : Calls Try.prog 13 #[.slice a l.length c] w fun e w' => ∃ (ca3 da3 : Option Addr) (cc3 dc3 : Nat), e = .returned (.agg #[.slice ca3 g.code.length cc3, .slice da3 g.data.length dc3, .int .i64 g.lim, .int .i64 g.notes, .bool true]) ∧ NumAt .u32 w'.heap.size w' ca3 g.code ∧ NumAt .u8 w'.heap.size w' da3 g.data ∧ g.data.length ≤ dc3 ∧ Fr (fun _ => False) w w' := by
  refine (t_rdecode a c l hby hll w ha).mono fun e w' h => ?_
  rcases h with ⟨g', h1, ca, da, cc, dc, h2⟩ | ⟨h1, _⟩
  · have := h1.one hI
    subst this
    exact ⟨ca, da, cc, dc, h2⟩
  · exact absurd hI (h1 g)
theorem rdec_no (a : Option Addr) (c : Nat) (l : List Int) (hll : l.length ≤ 5000) (w : World) (ha : NumAt .u8 w.heap.size w a l) (hby : Byt l) (hI : ∀ g, ¬Is l g) : Calls Try.prog 13 #[.slice a l.length c] w fun e w' => e = .returned (.agg #[.slice none 0 0, .slice none 0 0, .int .i64 0, .int .i64 0, .bool false]) ∧ Fr (fun _ => False) w w' := by
  refine (t_rdecode a c l hby hll w ha).mono fun e w' h => ?_
  rcases h with ⟨g', h1, _⟩ | ⟨_, h1⟩
  · exact absurd h1 (hI g')
  · exact h1
theorem rright_ok (ca da : Option Addr) (cc dc : Nat) (g : Img) (hli : g.lim ≤ 9223372036854775807) (w : World) (hok : g.ok) : Calls Try.prog 9 #[.agg #[.slice ca g.code.length cc, .slice da g.data.length dc, .int .i64 g.lim, .int .i64 g.notes]] w fun e w' => e = .returned (.bool true) ∧ Fr (fun _ => False) w w' :=
  (t_rright ca da cc dc g hli w).mono fun e w' h => by
    obtain ⟨b, h1, h2, h3⟩ := h
    rw [h2.2 hok] at h1
    exact ⟨h1, h3⟩
theorem rright_no (ca da : Option Addr) (cc dc : Nat) (g : Img) (hli : g.lim ≤ 9223372036854775807) (w : World) (hok : ¬g.ok) : Calls Try.prog 9 #[.agg #[.slice ca g.code.length cc, .slice da g.data.length dc, .int .i64 g.lim, .int .i64 g.notes]] w fun e w' => e = .returned (.bool false) ∧ Fr (fun _ => False) w w' :=
  (t_rright ca da cc dc g hli w).mono fun e w' h => by
    obtain ⟨b, h1, h2, h3⟩ := h
    cases b
    · exact ⟨h1, h3⟩
    · exact absurd (h2.1 rfl) hok
theorem Row.lit0 {α : Type} {B : Nat} {e : TypeId} {c : Nat} {f : α → List Value} {w : World} {g : Nat} (h : w.heap[g]? = some (.cells #[] e (0, 0))) (hb : B ≤ g) : Row B e c f w (.slice (some ⟨g, 0, none⟩) 0 0) [] := by
  refine ⟨by simp, .inr ⟨g, 0, #[], rfl, hb, h, Nat.le_refl _, Nat.zero_le _, by simp, by simp⟩⟩
set_option maxRecDepth 100000 in
theorem walk_writes (ca da : Option Addr) (cc dc : Nat) (g : Img) (hwf : g.wf) (hdc : g.data.length ≤ dc) (hli : g.lim ≤ 9223372036854775807) (w : World) (hca : NumAt .u32 w.heap.size w ca g.code) (hda : NumAt .u8 w.heap.size w da g.data) : Calls Try.prog 3 #[.agg #[.slice ca g.code.length cc, .slice da g.data.length dc, .int .i64 g.lim, .int .i64 g.notes]] w fun e w' => e = .returned (.bool true) ∧ Fr (fun _ => False) w w' := by
  have ff := Fr.refl (fun _ => False) w
  refine calls_tw Try.func3 rfl rfl (Nat.le_of_ble_eq_true rfl) ?_
  refine TW.sreg ?_
  have lw1 := ff.size
  refine O.boxR rfl rfl rfl rfl rfl (qxR_api_Image w _ _ _ _ _ _ _ _) ?_
  rintro wa1 ⟨fa1, bx1⟩
  replace hca := hca.fr fa1
  replace hda := hda.fr fa1
  replace ff := ff.trans fa1
  refine WL.op rfl rfl rfl (Go.Proofs.Ytcombjhkbjbncaa.W.quiet_assign rfl rfl) ?_
  refine WL.nil ?_
  refine TW.seq ?_
  refine TW.sreg ?_
  refine WL.ld rfl rfl rfl rfl rfl (qlB_api_Image _ _ _ _ _ _ _ _ _ _ _ bx1) ?_
  refine WL.call (hr := t_few ca da cc dc g _) rfl rfl rfl rfl rfl (fun W => qk_rushlightlaw32_few W _) ?_
  rintro e w1 ⟨b, rfl, hfw, f1⟩
  refine ⟨_, rfl, ?_⟩
  replace bx1 := bx1.fr f1 id
  replace hca := hca.fr f1
  replace hda := hda.fr f1
  replace ff := ff.trans f1
  cases b
  · skip
    refine WL.op rfl rfl rfl (Go.Proofs.Ytcombjhkbjbncaa.W.quiet_not rfl rfl) ?_
    refine O.split (fun hb => ?_) (fun hb => by exfalso; revert hb; first | (simp; done) | (simp; omega))
    refine WL.nil ?_
    refine TW.cond rfl (fun _ => ?_) (fun hb => by cases hb)
    refine TW.sreg ?_
    refine WL.call (hr := t_awake _) rfl rfl rfl rfl rfl (fun W => qk_rushlightlaw32_awake W _) ?_
    rintro e wq ⟨rfl, fq⟩
    refine ⟨_, rfl, ?_⟩
    replace bx1 := bx1.fr fq id
    replace hca := hca.fr fq
    replace hda := hda.fr fq
    replace ff := ff.trans fq
    refine WL.op rfl rfl rfl (Go.Proofs.Ytcombjhkbjbncaa.W.quiet_assign rfl rfl) ?_
    refine WL.nil ?_
    refine TW.rt ?_
    refine Xw.thn (by simp) ?_
    refine bodyw_ret rfl rfl ?_
    exact ⟨rfl, ff⟩
  · have hfw2 := hfw rfl
    refine WL.op rfl rfl rfl (Go.Proofs.Ytcombjhkbjbncaa.W.quiet_not rfl rfl) ?_
    refine O.split (fun hb => by exfalso; revert hb; first | (simp; done) | (simp; omega)) (fun hb => ?_)
    refine WL.nil ?_
    by_cases hok : g.ok
    · have hes : (enc g).length ≤ 8000 := enc_small (by have := hok.c1; omega) (by have := hok.d1; omega)
      refine TW.cond rfl (fun hb => by cases hb) (fun _ => ?_)
      refine TW.skip ?_
      refine TW.sreg ?_
      refine WL.ld rfl rfl rfl rfl rfl (qlB_api_Image _ _ _ _ _ _ _ _ _ _ _ bx1) ?_
      refine WL.call (hr := (t_encode ca da cc dc g hwf hdc _ (hca.up ff.size) (hda.up ff.size) hok)) rfl rfl rfl rfl rfl (fun W => qk_pack_Encode W _) ?_
      rintro e w2 ⟨vE, rfl, hv, f2⟩
      refine ⟨_, rfl, ?_⟩
      replace bx1 := bx1.fr f2 id
      replace hca := hca.fr f2
      replace hda := hda.fr f2
      replace ff := ff.trans f2
      obtain ⟨va, vc, rfl⟩ := Row.form hv
      refine WL.op rfl rfl rfl (Go.Proofs.Ytcombjhkbjbncaa.W.quiet_move rfl rfl) ?_
      refine O.ext rfl rfl rfl rfl rfl rfl ?_
      refine O.ext rfl rfl rfl rfl rfl rfl ?_
      refine WL.op rfl rfl rfl (Go.Proofs.Ytcombjhkbjbncaa.W.quiet_assign rfl rfl) ?_
      refine WL.op rfl rfl rfl (Go.Proofs.Ytcombjhkbjbncaa.W.quiet_assign rfl rfl) ?_
      refine WL.nil ?_
      refine TW.seq ?_
      refine TW.sreg ?_
      refine WL.ld rfl rfl rfl rfl rfl (qlB_api_Image _ _ _ _ _ _ _ _ _ _ _ bx1) ?_
      refine WL.call (hr := (rright_ok ca da cc dc g hli _ hok)) rfl rfl rfl rfl rfl (fun W => qk_rushlightref32_Right W _) ?_
      rintro e w3 ⟨rfl, f3⟩
      refine ⟨_, rfl, ?_⟩
      replace bx1 := bx1.fr f3 id
      replace hca := hca.fr f3
      replace hda := hda.fr f3
      replace hv := Row.fr hv f3 (fun _ _ => id)
      replace ff := ff.trans f3
      refine O.split (fun hb => ?_) (fun hb => by exfalso; revert hb; first | (simp; done) | (simp; omega))
      refine WL.op rfl rfl rfl (Go.Proofs.Ytcombjhkbjbncaa.W.quiet_not rfl rfl) ?_
      refine WL.nil ?_
      refine TW.cond rfl (fun hb => by cases hb) (fun _ => ?_)
      refine TW.skip ?_
      refine TW.sreg ?_
      refine WL.op rfl rfl rfl (Go.Proofs.Ytcombjhkbjbncaa.W.quiet_move rfl rfl) ?_
      refine WL.call (hr := (dec_ok va vc (enc g) _ rfl (by omega) (Row.capLe hv).2.1 _ (Row.num hv) (enc_byt hwf.data) g ⟨hok, hwf, rfl⟩)) rfl rfl rfl rfl rfl (fun W => qk_pack_Decode W _) ?_
      rintro e w4 ⟨ca2, da2, cc2, dc2, rfl, hca2, hda2, hdc2, f4⟩
      refine ⟨_, rfl, ?_⟩
      replace bx1 := bx1.fr f4 id
      replace hca := hca.fr f4
      replace hda := hda.fr f4
      replace hv := Row.fr hv f4 (fun _ _ => id)
      replace ff := ff.trans f4
      refine WL.op rfl rfl rfl (Go.Proofs.Ytcombjhkbjbncaa.W.quiet_move rfl rfl) ?_
      refine O.ext rfl rfl rfl rfl rfl rfl ?_
      refine O.ext rfl rfl rfl rfl rfl rfl ?_
      have lt2_bx1 := bx1.lt
      have lw2 := ff.size
      refine O.allocR rfl rfl rfl rfl (qzR_api_Image w4) ?_
      rintro wa2 ⟨fa2, bx2⟩
      replace bx1 := bx1.fr fa2 id
      replace hca := hca.fr fa2
      replace hda := hda.fr fa2
      replace hv := Row.fr hv fa2 (fun _ _ => id)
      replace hca2 := hca2.fr fa2
      replace hda2 := hda2.fr fa2
      replace ff := ff.trans fa2
      refine O.storeR rfl rfl rfl rfl rfl (qsA_api_Image wa2 _ _ _ _ _ _ _ _ _ _ _ _ _ bx2) ?_
      rintro wa3 ⟨fa3, bx2x⟩
      replace bx1 := bx1.fr fa3 (fun e => by omega)
      replace hca := hca.frZ fa3 (fun q hq e => by omega)
      replace hda := hda.frZ fa3 (fun q hq e => by omega)
      replace hv := Row.fr hv fa3 (fun k hk e => Row.apart_typ hv bx2 (by decide) (hk.trans (congrArg some e)))
      replace hca2 := hca2.frZ fa3 (fun q hq e => by omega)
      replace hda2 := hda2.frZ fa3 (fun q hq e => by omega)
      replace ff := ff.trans' fa3 (fun q hq e => by omega)
      clear bx2
      have bx2 := bx2x
      clear bx2x
      refine WL.op rfl rfl rfl (Go.Proofs.Ytcombjhkbjbncaa.W.quiet_assign rfl rfl) ?_
      refine WL.nil ?_
      have hvp := hv
      have b1p := bx1
      have b2p := bx2
      refine TW.sregH (fun W => Fr (fun _ => False) wa3 W) (by kernel_rfl) ?_
      have fd : Fr (fun _ => False) wa3 wa3.drew := (Fr.refl _ _).drewN 1
      have HW : Fr (fun _ => False) wa3 wa3.drew := (Fr.refl _ _).drewN 1
      replace bx1 := bx1.fr fd id
      replace bx2 := bx2.fr fd id
      replace hca := hca.fr fd
      replace hda := hda.fr fd
      replace hv := Row.fr hv fd (fun _ _ => id)
      replace hca2 := hca2.fr fd
      replace hda2 := hda2.fr fd
      replace ff := ff.trans fd
      generalize hV : wa3.drew = V1 at *
      clear hV
      refine WH.one 0 (by kernel_rfl) rfl ?_ 
      refine WL.call (hr := t_awake _) rfl rfl rfl rfl rfl (fun W => qk_rushlightlaw32_awake W _) ?_
      rintro e wq ⟨rfl, fq⟩
      refine ⟨_, rfl, ?_⟩
      replace bx1 := bx1.fr fq id
      replace bx2 := bx2.fr fq id
      replace hca := hca.fr fq
      replace hda := hda.fr fq
      replace hv := Row.fr hv fq (fun _ _ => id)
      replace hca2 := hca2.fr fq
      replace hda2 := hda2.fr fq
      replace HW := HW.trans' fq (fun q hq e => e.elim)
      replace ff := ff.trans fq
      refine O.split (fun hb => ?_) (fun hb => by exfalso; revert hb; first | (simp; done) | (simp; omega))
      refine WL.fin HW ?_
      refine WH.take 1 rfl (by kernel_rfl) (by kernel_rfl) (by kernel_rfl) (fun _ _ _ _ _ h => h) rfl rfl rfl HW (RH.move rfl rfl) ?_
      refine WH.take 2 rfl (by kernel_rfl) (by kernel_rfl) (by kernel_rfl) (fun _ _ _ _ _ h => h) rfl rfl rfl HW (RH.move rfl rfl) ?_
      refine WH.take 3 rfl (by kernel_rfl) (by kernel_rfl) (by kernel_rfl) (fun _ _ _ _ _ h => h) rfl rfl rfl HW (RH.bin rfl rfl rfl (fun W => qb_eql_api_Errno W _ _ _ _)) ?_
      refine WH.split (fun hb => ?_) (fun hb => by exfalso; revert hb; first | (simp; done) | (simp; omega))
      refine WH.take 4 rfl (by kernel_rfl) (by kernel_rfl) (by kernel_rfl) (fun _ _ _ _ _ h => h) rfl rfl rfl HW (RH.pick rfl rfl rfl) ?_
      refine WH.take 5 rfl (by kernel_rfl) (by kernel_rfl) (by kernel_rfl) (fun _ _ _ _ _ h => h) rfl rfl rfl HW (RH.move rfl rfl) ?_
      refine WH.take 6 rfl (by kernel_rfl) (by kernel_rfl) (by kernel_rfl) (fun _ _ _ _ _ h => h) rfl rfl rfl HW (RH.move rfl rfl) ?_
      refine WH.take 7 rfl (by kernel_rfl) (by kernel_rfl) (by kernel_rfl) (fun _ _ _ _ _ h => h) rfl rfl rfl HW (RH.cv rfl rfl (fun W hW => (str_of ((Row.num hvp).fr hW)))) ?_
      refine WH.take 8 rfl (by kernel_rfl) (by kernel_rfl) (by kernel_rfl) (fun _ _ _ _ _ h => h) rfl rfl rfl HW (RH.load rfl rfl (fun W hW => (qlB_api_Image _ _ _ _ _ _ _ _ _ _ _ (b1p.fr hW id)))) ?_
      refine WH.one 9 (by kernel_rfl) rfl ?_ 
      refine WL.call (hr := (t_rencode ca da cc dc g hwf hok _ (hca.up ff.size) (hda.up ff.size))) rfl rfl rfl rfl rfl (fun W => qk_rushlightref32_Encode W _) ?_
      rintro e w9 ⟨vR, rfl, hvR, f9⟩
      refine ⟨_, rfl, ?_⟩
      replace bx1 := bx1.fr f9 id
      replace bx2 := bx2.fr f9 id
      replace hca := hca.fr f9
      replace hda := hda.fr f9
      replace hv := Row.fr hv f9 (fun _ _ => id)
      replace hca2 := hca2.fr f9
      replace hda2 := hda2.fr f9
      replace HW := HW.trans' f9 (fun q hq e => e.elim)
      replace ff := ff.trans f9
      obtain ⟨vra, vrc, rfl⟩ := Row.form hvR
      refine WL.fin HW ?_
      refine WH.one 10 (by kernel_rfl) rfl ?_ 
      refine O.cv rfl rfl rfl rfl rfl (str_of (Row.num hvR)) ?_
      refine WL.fin HW ?_
      refine WH.take 11 rfl (by kernel_rfl) (by kernel_rfl) (by kernel_rfl) (fun _ _ _ _ _ h => h) rfl rfl rfl HW (RH.bin rfl rfl rfl (fun W => bn_eqs W _ _ (u8s (enc g)) (u8s (enc g)))) ?_
      refine WH.split (fun hb => ?_) (fun hb => by exfalso; revert hb; first | (simp; done) | (simp; omega))
      refine WH.take 12 rfl (by kernel_rfl) (by kernel_rfl) (by kernel_rfl) (fun _ _ _ _ _ h => h) rfl rfl rfl HW (RH.pick rfl rfl rfl) ?_
      refine WH.take 13 rfl (by kernel_rfl) (by kernel_rfl) (by kernel_rfl) (fun _ _ _ _ _ h => h) rfl rfl rfl HW (RH.move rfl rfl) ?_
      refine WH.take 14 rfl (by kernel_rfl) (by kernel_rfl) (by kernel_rfl) (fun _ _ _ _ _ h => h) rfl rfl rfl HW (RH.move rfl rfl) ?_
      refine WH.take 15 rfl (by kernel_rfl) (by kernel_rfl) (by kernel_rfl) (fun _ _ _ _ _ h => h) rfl rfl rfl HW (RH.bin rfl rfl rfl (fun W => qb_eql_api_Errno W _ _ _ _)) ?_
      refine WH.split (fun hb => ?_) (fun hb => by exfalso; revert hb; first | (simp; done) | (simp; omega))
      refine WH.take 16 rfl (by kernel_rfl) (by kernel_rfl) (by kernel_rfl) (fun _ _ _ _ _ h => h) rfl rfl rfl HW (RH.pick rfl rfl rfl) ?_
      refine WH.take 17 rfl (by kernel_rfl) (by kernel_rfl) (by kernel_rfl) (fun _ _ _ _ _ h => h) rfl rfl rfl HW (RH.move rfl rfl) ?_
      refine WH.take 18 rfl (by kernel_rfl) (by kernel_rfl) (by kernel_rfl) (fun _ _ _ _ _ h => h) rfl rfl rfl HW (RH.load rfl rfl (fun W hW => (qlB_api_Image _ _ _ _ _ _ _ _ _ _ _ (b2p.fr hW id)))) ?_
      refine WH.take 19 rfl (by kernel_rfl) (by kernel_rfl) (by kernel_rfl) (fun _ _ _ _ _ h => h) rfl rfl rfl HW (RH.load rfl rfl (fun W hW => (qlB_api_Image _ _ _ _ _ _ _ _ _ _ _ (b1p.fr hW id)))) ?_
      refine WH.one 20 (by kernel_rfl) rfl ?_ 
      refine WL.call (hr := (t_same _ _ _ _ ca2 da2 ca da cc2 dc2 cc dc g (by have := hok.c1; omega) _ hca2 hda2 hca hda)) rfl rfl rfl rfl rfl (fun W => qk_rushlightlaw32_Same W _) ?_
      rintro e w8 ⟨rfl, f8⟩
      refine ⟨_, rfl, ?_⟩
      replace bx1 := bx1.fr f8 id
      replace bx2 := bx2.fr f8 id
      replace hca := hca.fr f8
      replace hda := hda.fr f8
      replace hv := Row.fr hv f8 (fun _ _ => id)
      replace hca2 := hca2.fr f8
      replace hda2 := hda2.fr f8
      replace HW := HW.trans' f8 (fun q hq e => e.elim)
      replace ff := ff.trans f8
      refine WL.fin HW ?_
      refine WH.take 21 rfl (by kernel_rfl) (by kernel_rfl) (by kernel_rfl) (fun _ _ _ _ _ h => h) rfl rfl rfl HW (RH.pick rfl rfl rfl) ?_
      refine WH.take 22 rfl (by kernel_rfl) (by kernel_rfl) (by kernel_rfl) (fun _ _ _ _ _ h => h) rfl rfl rfl HW (RH.assign rfl rfl) ?_
      refine WH.done (by kernel_rfl) ?_
      refine TW.rt ?_
      refine bodyw_ret rfl rfl ?_
      exact ⟨rfl, ff⟩
    · skip
      refine TW.cond rfl (fun hb => by cases hb) (fun _ => ?_)
      refine TW.skip ?_
      refine TW.sreg ?_
      refine WL.ld rfl rfl rfl rfl rfl (qlB_api_Image _ _ _ _ _ _ _ _ _ _ _ bx1) ?_
      refine WL.call (hr := (t_encode_no ca da cc dc g _ hok)) rfl rfl rfl rfl rfl (fun W => qk_pack_Encode W _) ?_
      rintro e w2 ⟨rfl, f2⟩
      refine ⟨_, rfl, ?_⟩
      replace bx1 := bx1.fr f2 id
      replace hca := hca.fr f2
      replace hda := hda.fr f2
      replace ff := ff.trans f2
      refine WL.op rfl rfl rfl (Go.Proofs.Ytcombjhkbjbncaa.W.quiet_move rfl rfl) ?_
      refine O.ext rfl rfl rfl rfl rfl rfl ?_
      refine O.ext rfl rfl rfl rfl rfl rfl ?_
      refine WL.op rfl rfl rfl (Go.Proofs.Ytcombjhkbjbncaa.W.quiet_assign rfl rfl) ?_
      refine WL.op rfl rfl rfl (Go.Proofs.Ytcombjhkbjbncaa.W.quiet_assign rfl rfl) ?_
      refine WL.nil ?_
      refine TW.seq ?_
      refine TW.sreg ?_
      refine WL.ld rfl rfl rfl rfl rfl (qlB_api_Image _ _ _ _ _ _ _ _ _ _ _ bx1) ?_
      refine WL.call (hr := (rright_no ca da cc dc g hli _ hok)) rfl rfl rfl rfl rfl (fun W => qk_rushlightref32_Right W _) ?_
      rintro e w3 ⟨rfl, f3⟩
      refine ⟨_, rfl, ?_⟩
      replace bx1 := bx1.fr f3 id
      replace hca := hca.fr f3
      replace hda := hda.fr f3
      replace ff := ff.trans f3
      refine O.split (fun hb => by exfalso; revert hb; first | (simp; done) | (simp; omega)) (fun hb => ?_)
      refine WL.op rfl rfl rfl (Go.Proofs.Ytcombjhkbjbncaa.W.quiet_not rfl rfl) ?_
      refine WL.nil ?_
      refine TW.cond rfl (fun _ => ?_) (fun hb => by cases hb)
      refine TW.sreg ?_
      refine WL.call (hr := t_awake _) rfl rfl rfl rfl rfl (fun W => qk_rushlightlaw32_awake W _) ?_
      rintro e wq ⟨rfl, fq⟩
      refine ⟨_, rfl, ?_⟩
      replace bx1 := bx1.fr fq id
      replace hca := hca.fr fq
      replace hda := hda.fr fq
      replace ff := ff.trans fq
      refine O.split (fun hb => ?_) (fun hb => by exfalso; revert hb; first | (simp; done) | (simp; omega))
      refine WL.op rfl rfl rfl (Go.Proofs.Ytcombjhkbjbncaa.W.quiet_move rfl rfl) ?_
      refine WL.op rfl rfl rfl (Go.Proofs.Ytcombjhkbjbncaa.W.quiet_move rfl rfl) ?_
      refine WL.op rfl rfl rfl (Go.Proofs.Ytcombjhkbjbncaa.W.quiet_bin rfl rfl rfl (fun W => qb_eql_api_Errno W _ _ _ _)) ?_
      refine O.split (fun hb => ?_) (fun hb => by exfalso; revert hb; first | (simp; done) | (simp; omega))
      refine WL.op rfl rfl rfl (Go.Proofs.Ytcombjhkbjbncaa.W.quiet_pick rfl rfl rfl) ?_
      refine WL.op rfl rfl rfl (Go.Proofs.Ytcombjhkbjbncaa.W.quiet_move rfl rfl) ?_
      refine WL.op rfl rfl rfl (Go.Proofs.Ytcombjhkbjbncaa.W.quiet_move rfl rfl) ?_
      refine O.len rfl rfl rfl rfl rfl (qn_s_uint8 _ _ _ _) ?_
      refine WL.op rfl rfl rfl (Go.Proofs.Ytcombjhkbjbncaa.W.quiet_bin rfl rfl rfl (fun W => qb_eql_int W _ _ _ _)) ?_
      refine O.split (fun hb => ?_) (fun hb => by exfalso; revert hb; first | (simp; done) | (simp; omega))
      refine WL.op rfl rfl rfl (Go.Proofs.Ytcombjhkbjbncaa.W.quiet_pick rfl rfl rfl) ?_
      refine WL.op rfl rfl rfl (Go.Proofs.Ytcombjhkbjbncaa.W.quiet_assign rfl rfl) ?_
      refine WL.nil ?_
      refine TW.rt ?_
      refine Xw.thn (by simp) ?_
      refine bodyw_ret rfl rfl ?_
      exact ⟨rfl, ff⟩
end Go.Proofs.Ytcombjhkbjbncaa
