/-
  Pack (layer 32): the document's data as runs.
-/
import Derived.Test.YtcombjhkbjbncaaPkF
namespace Go.Proofs.Ytcombjhkbjbncaa
open Go.RowKit
set_option linter.unusedVariables false
set_option linter.unusedSimpArgs false
set_option linter.unnecessarySimpa false
theorem qk_rushlightref32_begins (w : World) (vs : Array Value) : (callFunc 31 vs).run Try.prog w = .ok (.enter 31 vs) w := by simp [go_sem]
set_option maxRecDepth 100000 in
theorem t_rruns (da : Option Addr) (dc : Nat) (d : List Int) (hdl : d.length ≤ 90000) (w : World) (hda0 : NumAt .u8 w.heap.size w da d) : Calls Try.prog 23 #[.slice da d.length dc] w fun e w' => ∃ v', e = .returned v' ∧ R8 w.heap.size w' v' (runs d) ∧ Fr (fun _ => False) w w' := by
  have ff := Fr.refl (fun _ => False) w
  refine calls_tw Try.func23 rfl rfl (Nat.le_of_ble_eq_true rfl) ?_
  refine TW.sreg ?_
  refine WL.op rfl rfl rfl (Go.Proofs.Ytcombjhkbjbncaa.W.quiet_assign rfl rfl) ?_
  refine WL.nil ?_
  refine TW.sreg ?_
  refine WL.op rfl rfl rfl (Go.Proofs.Ytcombjhkbjbncaa.W.quiet_assign rfl rfl) ?_
  refine WL.nil ?_
  refine TW.sreg ?_
  refine WL.op rfl rfl rfl (Go.Proofs.Ytcombjhkbjbncaa.W.quiet_assign rfl rfl) ?_
  refine WL.nil ?_
  refine TW.seq ?_
  refine TW.block ?_
  refine O.loopG (n := d.length) (fun a _ => (intOf (a.tmps.getD 4 undef)).toNat) (fun j a W => ∃ (v : Value) (xs : List Int), Kn Try.f23.ntmps [(0, .slice da d.length dc), (3, v), (4, .int .i64 (j : Int))] a ∧ Fr (fun _ => False) w W ∧ R8 w.heap.size W v (xs) ∧ NumAt .u8 w.heap.size W da d ∧ xs ++ runs (d.drop j) = runs d) (fun j a W h => by obtain ⟨_, _, h⟩ := h; exact O.slotv h.1 rfl) 0 (Nat.zero_le _) (fun a k => ⟨.slice none 0 0, [], (by (repeat (refine Kn.cons k rfl ?_)); exact k.base), ff, Row.nil _ _ _ _ _, hda0, rfl⟩) ?_
  rintro j a wl hj ⟨v, xs, k, ff, hv, hda, hxs⟩
  refine TW.app (s := [(0, .slice da d.length dc), (3, v), (4, .int .i64 (j : Int))]) ?_ k
  have hb30 := hdl
  have hlx : (xs ++ runs (d.drop j)).length ≤ 200000 := by rw [hxs]; have := runs_len d; omega
  rw [List.length_append] at hlx
  refine TW.seq ?_
  refine TW.sreg ?_
  refine WL.op rfl rfl rfl (Go.Proofs.Ytcombjhkbjbncaa.W.quiet_move rfl rfl) ?_
  refine WL.op rfl rfl rfl (Go.Proofs.Ytcombjhkbjbncaa.W.quiet_move rfl rfl) ?_
  refine O.len rfl rfl rfl rfl rfl (qn_s_uint8 _ _ _ _) ?_
  refine WL.op rfl rfl rfl (Go.Proofs.Ytcombjhkbjbncaa.W.quiet_bin rfl rfl rfl (fun W => qb_lss_int W _ _ _ _)) ?_
  refine O.split (fun b1 => ?_) (fun b1 => ?_)
  · skip
    have hj2 : j < d.length := by have := of_decide_eq_true b1; omega
    have hdn : (d.drop j) ≠ [] := fun e => by have := congrArg List.length e; simp at this; omega
    have hdD : (d.drop j).length = d.length - j := List.length_drop
    refine WL.nil ?_
    refine TW.cond rfl (fun _ => ?_) (fun hb => by cases hb)
    refine TW.skip ?_
    refine TW.block ?_
    refine TW.seq ?_
    refine TW.sreg ?_
    refine WL.op rfl rfl rfl (Go.Proofs.Ytcombjhkbjbncaa.W.quiet_move rfl rfl) ?_
    refine WL.op rfl rfl rfl (Go.Proofs.Ytcombjhkbjbncaa.W.quiet_move rfl rfl) ?_
    refine WL.call (hr := (t_begins w.heap.size da dc d (by omega) j (by omega) _ hda)) rfl rfl rfl rfl rfl (fun W => qk_rushlightref32_begins W _) ?_
    rintro e wb ⟨rfl, fb⟩
    refine ⟨_, rfl, ?_⟩
    replace hv := Row.fr hv fb (fun _ _ => id)
    replace hda := hda.fr fb
    replace ff := ff.trans fb
    refine O.split (fun b2 => ?_) (fun b2 => ?_)
    · skip
      have hb : bgn (d.drop j) := by simpa using b2
      have hz1 := zl_pos hb
      have hz2 := zl_le (d.drop j)
      have hz3 := zl_128 (d.drop j)
      have hmz : min (nz (d.drop j) : Int) 128 = (zl (d.drop j) : Int) := by unfold zl; omega
      refine WL.nil ?_
      refine TW.cond rfl (fun _ => ?_) (fun hb => by cases hb)
      refine TW.sreg ?_
      refine WL.op rfl rfl rfl (Go.Proofs.Ytcombjhkbjbncaa.W.quiet_move rfl rfl) ?_
      refine WL.op rfl rfl rfl (Go.Proofs.Ytcombjhkbjbncaa.W.quiet_move rfl rfl) ?_
      refine WL.call (hr := (t_noughts w.heap.size da dc d (by omega) j (by omega) _ hda)) rfl rfl rfl rfl rfl (fun W => qk_rushlightref32_noughts W _) ?_
      rintro e wn ⟨rfl, fn⟩
      refine ⟨_, rfl, ?_⟩
      replace hv := Row.fr hv fn (fun _ _ => id)
      replace hda := hda.fr fn
      replace ff := ff.trans fn
      refine O.bmin rfl rfl rfl rfl rfl rfl (bi_min _ _ _ _) ?_
      rw [hmz]
      refine WL.op rfl rfl rfl (Go.Proofs.Ytcombjhkbjbncaa.W.quiet_assign rfl rfl) ?_
      refine WL.nil ?_
      refine TW.sreg ?_
      refine WL.op rfl rfl rfl (Go.Proofs.Ytcombjhkbjbncaa.W.quiet_move rfl rfl) ?_
      refine WL.op rfl rfl rfl (Go.Proofs.Ytcombjhkbjbncaa.W.quiet_move rfl rfl) ?_
      refine WL.op rfl rfl rfl (Go.Proofs.Ytcombjhkbjbncaa.W.quiet_bin rfl rfl rfl (fun W => qb_add_int W _ _ _ _ (by omega) (by omega))) ?_
      refine O.cv rfl rfl rfl rfl rfl (cv_i8 _ _) ?_
      rw [show (127 + (zl (d.drop j) : Int)) % 256 = 127 + (zl (d.drop j) : Int) by omega]
      have lw1 := ff.size
      refine O.bslR rfl rfl rfl rfl rfl (qv_s_uint8_1 wn _) ?_
      rintro wa1 ⟨fa1, bx1⟩
      replace hv := Row.fr hv fa1 (fun _ _ => id)
      replace hda := hda.fr fa1
      replace ff := ff.trans fa1
      refine WL.append rfl rfl rfl rfl rfl rfl (R8.appN [127 + (zl (d.drop j) : Int)] _ hv (by have := ff.size; omega) (by omega) (by simp) (one_num bx1)) ?_
      rintro v3 w3 ⟨hv3, hF3, ho3⟩
      have hvk := fun k hk => (Row.lt hv k hk).1
      replace ff := ff.trans' hF3 (fun q hq e => by have := hvk q e; omega)
      replace hda := hda.frZ hF3 (fun q hq e => by have := hvk q e; omega)
      clear hv hvk
      have hv := hv3
      -- world w3
      obtain ⟨kn, hkn⟩ : ∃ kn, kn = zl (d.drop j) := ⟨_, rfl⟩
      have hst : [(127 + (zl (d.drop j) : Int))] ++ runs ((d.drop j).drop kn) = runs (d.drop j) := by rw [runs_z hb, hkn]; rfl
      rw [← hkn]
      refine WL.op rfl rfl rfl (Go.Proofs.Ytcombjhkbjbncaa.W.quiet_assign rfl rfl) ?_
      refine WL.nil ?_
      refine TW.sreg ?_
      refine WL.op rfl rfl rfl (Go.Proofs.Ytcombjhkbjbncaa.W.quiet_move rfl rfl) ?_
      refine WL.op rfl rfl rfl (Go.Proofs.Ytcombjhkbjbncaa.W.quiet_move rfl rfl) ?_
      refine WL.op rfl rfl rfl (Go.Proofs.Ytcombjhkbjbncaa.W.quiet_bin rfl rfl rfl (fun W => qb_add_int W _ _ _ _ (by omega) (by omega))) ?_
      refine WL.op rfl rfl rfl (Go.Proofs.Ytcombjhkbjbncaa.W.quiet_assign rfl rfl) ?_
      refine WL.nil ?_
      refine TW.exit ?_
      refine Xw.thn (by simp) ?_
      refine Xw.hit ?_
      refine Xw.any (fun a k => ?_)
      refine ⟨j + kn, by omega, by omega, _, _, (by (repeat (refine Kn.cons k rfl ?_)); exact k.base), ff, hv, hda, ?_⟩
      rw [← hxs, ← hst, ← drops]; simp only [List.append_assoc, List.cons_append, List.nil_append]
    · skip
      have hb : ¬bgn (d.drop j) := by simpa using b2
      have ho1 := oth_pos hdn hb
      have ho2 := oth_le (d.drop j)
      refine WL.nil ?_
      refine TW.cond rfl (fun hb => by cases hb) (fun _ => ?_)
      refine TW.skip ?_
      refine TW.sreg ?_
      refine WL.op rfl rfl rfl (Go.Proofs.Ytcombjhkbjbncaa.W.quiet_assign rfl rfl) ?_
      refine WL.nil ?_
      refine O.mid (fun a W => Kn Try.f23.ntmps [(0, .slice da d.length dc), (3, v), (4, .int .i64 (j : Int)), (6, .int .i64 (oth (d.drop j) : Int))] a ∧ Fr (fun _ => False) w W ∧ R8 w.heap.size W v (xs) ∧ NumAt .u8 w.heap.size W da d) ?_ ?_
      · skip
        refine TW.block ?_
        refine O.loopG (n := (min (d.length - j) 127)) (fun a _ => (intOf (a.tmps.getD 6 undef)).toNat) (fun i a W => Kn Try.f23.ntmps [(0, .slice da d.length dc), (3, v), (4, .int .i64 (j : Int)), (6, .int .i64 (i : Int))] a ∧ Fr (fun _ => False) w W ∧ R8 w.heap.size W v (xs) ∧ NumAt .u8 w.heap.size W da d ∧ ∀ q, q < i → ¬bgn ((d.drop j).drop q)) (fun i a W h => O.slotv h.1 rfl) 0 (Nat.zero_le _) (fun a k => ⟨(by (repeat (refine Kn.cons k rfl ?_)); exact k.base), ff, hv, hda, fun q hq => absurd hq (by omega)⟩) ?_
        rintro i a wi hj ⟨k, ff, hv, hda, hz⟩
        refine TW.app (s := [(0, .slice da d.length dc), (3, v), (4, .int .i64 (j : Int)), (6, .int .i64 (i : Int))]) ?_ k
        have hb30 := hdl
        refine TW.seq ?_
        refine TW.sreg ?_
        refine WL.op rfl rfl rfl (Go.Proofs.Ytcombjhkbjbncaa.W.quiet_move rfl rfl) ?_
        refine WL.op rfl rfl rfl (Go.Proofs.Ytcombjhkbjbncaa.W.quiet_move rfl rfl) ?_
        refine WL.op rfl rfl rfl (Go.Proofs.Ytcombjhkbjbncaa.W.quiet_bin rfl rfl rfl (fun W => qb_add_int W _ _ _ _ (by omega) (by omega))) ?_
        refine WL.op rfl rfl rfl (Go.Proofs.Ytcombjhkbjbncaa.W.quiet_move rfl rfl) ?_
        refine O.len rfl rfl rfl rfl rfl (qn_s_uint8 _ _ _ _) ?_
        refine WL.op rfl rfl rfl (Go.Proofs.Ytcombjhkbjbncaa.W.quiet_bin rfl rfl rfl (fun W => qb_lss_int W _ _ _ _)) ?_
        refine O.split (fun c1 => ?_) (fun c1 => ?_)
        · skip
          refine WL.op rfl rfl rfl (Go.Proofs.Ytcombjhkbjbncaa.W.quiet_move rfl rfl) ?_
          refine WL.op rfl rfl rfl (Go.Proofs.Ytcombjhkbjbncaa.W.quiet_move rfl rfl) ?_
          refine WL.op rfl rfl rfl (Go.Proofs.Ytcombjhkbjbncaa.W.quiet_bin rfl rfl rfl (fun W => qb_lss_int W _ _ _ _)) ?_
          refine O.split (fun c2 => ?_) (fun c2 => ?_)
          · skip
            have hi2 : j + i < d.length := by have := of_decide_eq_true c1; omega
            have hi3 : i < 127 := by have := of_decide_eq_true c2; omega
            refine WL.op rfl rfl rfl (Go.Proofs.Ytcombjhkbjbncaa.W.quiet_pick rfl rfl rfl) ?_
            refine WL.op rfl rfl rfl (Go.Proofs.Ytcombjhkbjbncaa.W.quiet_move rfl rfl) ?_
            refine WL.op rfl rfl rfl (Go.Proofs.Ytcombjhkbjbncaa.W.quiet_move rfl rfl) ?_
            refine WL.op rfl rfl rfl (Go.Proofs.Ytcombjhkbjbncaa.W.quiet_move rfl rfl) ?_
            refine WL.op rfl rfl rfl (Go.Proofs.Ytcombjhkbjbncaa.W.quiet_move rfl rfl) ?_
            refine WL.op rfl rfl rfl (Go.Proofs.Ytcombjhkbjbncaa.W.quiet_bin rfl rfl rfl (fun W => qb_add_int W _ _ _ _ (by omega) (by omega))) ?_
            rw [show (j : Int) + (i : Int) = ((j + i : Nat) : Int) by omega]
            refine WL.call (hr := (t_begins w.heap.size da dc d (by omega) (j + i) (by omega) _ hda)) rfl rfl rfl rfl rfl (fun W => qk_rushlightref32_begins W _) ?_
            rintro e wb ⟨rfl, fb⟩
            refine ⟨_, rfl, ?_⟩
            replace hv := Row.fr hv fb (fun _ _ => id)
            replace hda := hda.fr fb
            replace ff := ff.trans fb
            refine O.split (fun c3 => ?_) (fun c3 => ?_)
            · skip
              refine WL.op rfl rfl rfl (Go.Proofs.Ytcombjhkbjbncaa.W.quiet_not rfl rfl) ?_
              refine WL.op rfl rfl rfl (Go.Proofs.Ytcombjhkbjbncaa.W.quiet_pick rfl rfl rfl) ?_
              refine WL.nil ?_
              refine TW.cond rfl (fun hb => by cases hb) (fun _ => ?_)
              refine TW.exit ?_
              refine Xw.thn (by simp) ?_
              refine Xw.thn (by simp) ?_
              refine Xw.hit ?_
              refine Xw.any (fun a k => ?_)
              have hoi : oth (d.drop j) = i := othF_end 127 (d.drop j) i (by omega) (by rw [List.length_drop]; omega) hz (.inr (.inr (by rw [drops]; simpa using c3)))
              exact ⟨by rw [hoi]; (repeat (refine Kn.cons k rfl ?_)); exact k.base, ff, hv, hda⟩
            · skip
              refine WL.op rfl rfl rfl (Go.Proofs.Ytcombjhkbjbncaa.W.quiet_not rfl rfl) ?_
              refine WL.op rfl rfl rfl (Go.Proofs.Ytcombjhkbjbncaa.W.quiet_pick rfl rfl rfl) ?_
              refine WL.nil ?_
              refine TW.cond rfl (fun _ => ?_) (fun hb => by cases hb)
              refine TW.skip ?_
              refine TW.block ?_
              refine TW.reg ?_
              refine WL.op rfl rfl rfl (Go.Proofs.Ytcombjhkbjbncaa.W.quiet_move rfl rfl) ?_
              refine WL.op rfl rfl rfl (Go.Proofs.Ytcombjhkbjbncaa.W.quiet_bin rfl rfl rfl (fun W => qb_add_int W _ _ _ _ (by omega) (by omega))) ?_
              refine WL.op rfl rfl rfl (Go.Proofs.Ytcombjhkbjbncaa.W.quiet_assign rfl rfl) ?_
              refine WL.end ?_
              refine Xw.nblk ?_
              refine Xw.any (fun a k => ?_)
              refine ⟨i + 1, by omega, by omega, (by (repeat (refine Kn.cons k rfl ?_)); exact k.base), ff, hv, hda, fun q hq => ?_⟩
              by_cases e : q = i
              · subst e; rw [drops]; simpa using c3
              · exact hz q (by omega)
          · skip
            refine WL.op rfl rfl rfl (Go.Proofs.Ytcombjhkbjbncaa.W.quiet_pick rfl rfl rfl) ?_
            refine WL.op rfl rfl rfl (Go.Proofs.Ytcombjhkbjbncaa.W.quiet_move rfl rfl) ?_
            refine WL.skip rfl rfl rfl ?_
            refine WL.skip rfl rfl rfl ?_
            refine WL.skip rfl rfl rfl ?_
            refine WL.skip rfl rfl rfl ?_
            refine WL.skip rfl rfl rfl ?_
            refine WL.skip rfl rfl rfl ?_
            refine WL.op rfl rfl rfl (Go.Proofs.Ytcombjhkbjbncaa.W.quiet_pick rfl rfl rfl) ?_
            refine WL.nil ?_
            refine TW.cond rfl (fun hb => by cases hb) (fun _ => ?_)
            refine TW.exit ?_
            refine Xw.thn (by simp) ?_
            refine Xw.thn (by simp) ?_
            refine Xw.hit ?_
            refine Xw.any (fun a k => ?_)
            have hoi : oth (d.drop j) = i := othF_end 127 (d.drop j) i (by omega) (by rw [List.length_drop]; omega) hz (.inl (by have := of_decide_eq_false c2; omega))
            exact ⟨by rw [hoi]; (repeat (refine Kn.cons k rfl ?_)); exact k.base, ff, hv, hda⟩
        · skip
          refine WL.op rfl rfl rfl (Go.Proofs.Ytcombjhkbjbncaa.W.quiet_move rfl rfl) ?_
          refine WL.skip rfl rfl rfl ?_
          refine WL.skip rfl rfl rfl ?_
          refine WL.op rfl rfl rfl (Go.Proofs.Ytcombjhkbjbncaa.W.quiet_pick rfl rfl rfl) ?_
          refine WL.op rfl rfl rfl (Go.Proofs.Ytcombjhkbjbncaa.W.quiet_move rfl rfl) ?_
          refine WL.skip rfl rfl rfl ?_
          refine WL.skip rfl rfl rfl ?_
          refine WL.skip rfl rfl rfl ?_
          refine WL.skip rfl rfl rfl ?_
          refine WL.skip rfl rfl rfl ?_
          refine WL.skip rfl rfl rfl ?_
          refine WL.op rfl rfl rfl (Go.Proofs.Ytcombjhkbjbncaa.W.quiet_pick rfl rfl rfl) ?_
          refine WL.nil ?_
          refine TW.cond rfl (fun hb => by cases hb) (fun _ => ?_)
          refine TW.exit ?_
          refine Xw.thn (by simp) ?_
          refine Xw.thn (by simp) ?_
          refine Xw.hit ?_
          refine Xw.any (fun a k => ?_)
          have hoi : oth (d.drop j) = i := othF_end 127 (d.drop j) i (by omega) (by rw [List.length_drop]; omega) hz (.inr (.inl (by rw [List.length_drop]; have := of_decide_eq_false c1; omega)))
          exact ⟨by rw [hoi]; (repeat (refine Kn.cons k rfl ?_)); exact k.base, ff, hv, hda⟩
      · rintro a wm ⟨k, ff, hv, hda⟩
        refine TW.app (s := [(0, .slice da d.length dc), (3, v), (4, .int .i64 (j : Int)), (6, .int .i64 (oth (d.drop j) : Int))]) ?_ k
        refine TW.sreg ?_
        refine WL.op rfl rfl rfl (Go.Proofs.Ytcombjhkbjbncaa.W.quiet_move rfl rfl) ?_
        refine WL.op rfl rfl rfl (Go.Proofs.Ytcombjhkbjbncaa.W.quiet_move rfl rfl) ?_
        refine O.cv rfl rfl rfl rfl rfl (cv_i8 _ _) ?_
        rw [show (oth (d.drop j) : Int) % 256 = (oth (d.drop j) : Int) by omega]
        have lw2 := ff.size
        refine O.bslR rfl rfl rfl rfl rfl (qv_s_uint8_1 wm _) ?_
        rintro wa2 ⟨fa2, bx2⟩
        replace hv := Row.fr hv fa2 (fun _ _ => id)
        replace hda := hda.fr fa2
        replace ff := ff.trans fa2
        refine WL.append rfl rfl rfl rfl rfl rfl (R8.appN [(oth (d.drop j) : Int)] _ hv (by have := ff.size; omega) (by omega) (by simp) (one_num bx2)) ?_
        rintro v3 w3 ⟨hv3, hF3, ho3⟩
        have hvk := fun k hk => (Row.lt hv k hk).1
        replace ff := ff.trans' hF3 (fun q hq e => by have := hvk q e; omega)
        replace hda := hda.frZ hF3 (fun q hq e => by have := hvk q e; omega)
        clear hv hvk
        have hv := hv3
        -- world w3
        refine WL.op rfl rfl rfl (Go.Proofs.Ytcombjhkbjbncaa.W.quiet_assign rfl rfl) ?_
        refine WL.nil ?_
        refine TW.seq ?_
        refine TW.sreg ?_
        refine WL.op rfl rfl rfl (Go.Proofs.Ytcombjhkbjbncaa.W.quiet_assign rfl rfl) ?_
        refine WL.nil ?_
        refine TW.block ?_
        refine O.loopG (n := (oth (d.drop j))) (fun a _ => (intOf (a.tmps.getD 7 undef)).toNat) (fun i a W => ∃ (v : Value), Kn Try.f23.ntmps [(0, .slice da d.length dc), (3, v), (4, .int .i64 (j : Int)), (6, .int .i64 (oth (d.drop j) : Int)), (7, .int .i64 (i : Int))] a ∧ Fr (fun _ => False) w W ∧ R8 w.heap.size W v (xs ++ [(oth (d.drop j) : Int)] ++ (d.drop j).take i) ∧ NumAt .u8 w.heap.size W da d) (fun i a W h => by obtain ⟨_, h⟩ := h; exact O.slotv h.1 rfl) 0 (Nat.zero_le _) (fun a k => ⟨_, (by (repeat (refine Kn.cons k rfl ?_)); exact k.base), ff, by rw [List.take_zero, List.append_nil]; exact hv, hda⟩) ?_
        rintro i a wc hj ⟨v, k, ff, hv, hda⟩
        refine TW.app (s := [(0, .slice da d.length dc), (3, v), (4, .int .i64 (j : Int)), (6, .int .i64 (oth (d.drop j) : Int)), (7, .int .i64 (i : Int))]) ?_ k
        refine TW.seq ?_
        refine TW.sreg ?_
        refine WL.op rfl rfl rfl (Go.Proofs.Ytcombjhkbjbncaa.W.quiet_move rfl rfl) ?_
        refine WL.op rfl rfl rfl (Go.Proofs.Ytcombjhkbjbncaa.W.quiet_move rfl rfl) ?_
        refine WL.op rfl rfl rfl (Go.Proofs.Ytcombjhkbjbncaa.W.quiet_bin rfl rfl rfl (fun W => qb_lss_int W _ _ _ _)) ?_
        refine O.split (fun d1 => ?_) (fun d1 => ?_)
        · skip
          have hi2 : i < oth (d.drop j) := by have := of_decide_eq_true d1; omega
          obtain ⟨g, o, hab, hgz, hc⟩ := hda (j + i) (by omega)
          refine WL.nil ?_
          refine TW.cond rfl (fun _ => ?_) (fun hb => by cases hb)
          refine TW.skip ?_
          refine TW.seq ?_
          refine TW.block ?_
          refine TW.reg ?_
          refine WL.op rfl rfl rfl (Go.Proofs.Ytcombjhkbjbncaa.W.quiet_move rfl rfl) ?_
          refine WL.op rfl rfl rfl (Go.Proofs.Ytcombjhkbjbncaa.W.quiet_move rfl rfl) ?_
          refine WL.op rfl rfl rfl (Go.Proofs.Ytcombjhkbjbncaa.W.quiet_move rfl rfl) ?_
          refine WL.op rfl rfl rfl (Go.Proofs.Ytcombjhkbjbncaa.W.quiet_move rfl rfl) ?_
          refine WL.op rfl rfl rfl (Go.Proofs.Ytcombjhkbjbncaa.W.quiet_bin rfl rfl rfl (fun W => qb_add_int W _ _ _ _ (by omega) (by omega))) ?_
          refine O.ixa rfl rfl rfl rfl rfl rfl (by rw [hab, show (j : Int) + (i : Int) = ((j + i : Nat) : Int) by omega]; exact qi_s_uint8 _ _ _ _ _ _ (by omega)) ?_
          refine WL.ld rfl rfl rfl rfl rfl (ql_uint8 _ _ _ hc) ?_
          have lw3 := ff.size
          refine O.bslR rfl rfl rfl rfl rfl (qv_s_uint8_1 wc _) ?_
          rintro wa3 ⟨fa3, bx3⟩
          replace hv := Row.fr hv fa3 (fun _ _ => id)
          replace hda := hda.fr fa3
          replace ff := ff.trans fa3
          refine WL.append rfl rfl rfl rfl rfl rfl (R8.appN [d.getD (j + i) 0] _ hv (by have := ff.size; omega) (by simp only [List.length_append, List.length_take, List.length_cons, List.length_nil]; omega) (by simp) (one_num bx3)) ?_
          rintro v3 w3 ⟨hv3, hF3, ho3⟩
          have hvk := fun k hk => (Row.lt hv k hk).1
          replace ff := ff.trans' hF3 (fun q hq e => by have := hvk q e; omega)
          replace hda := hda.frZ hF3 (fun q hq e => by have := hvk q e; omega)
          clear hv hvk
          have hv := hv3
          -- world w3
          refine WL.op rfl rfl rfl (Go.Proofs.Ytcombjhkbjbncaa.W.quiet_assign rfl rfl) ?_
          refine WL.end ?_
          refine Xw.nblk ?_
          refine Xw.nrm ?_
          refine TW.reg ?_
          refine WL.op rfl rfl rfl (Go.Proofs.Ytcombjhkbjbncaa.W.quiet_move rfl rfl) ?_
          refine WL.op rfl rfl rfl (Go.Proofs.Ytcombjhkbjbncaa.W.quiet_bin rfl rfl rfl (fun W => qb_add_int W _ _ _ _ (by omega) (by omega))) ?_
          refine WL.op rfl rfl rfl (Go.Proofs.Ytcombjhkbjbncaa.W.quiet_assign rfl rfl) ?_
          refine WL.end ?_
          refine Xw.any (fun a k => ?_)
          refine ⟨i + 1, by omega, by omega, v3, (by (repeat (refine Kn.cons k rfl ?_)); exact k.base), ff, ?_, hda⟩
          rw [takes (show i < (d.drop j).length by rw [List.length_drop]; omega), ← List.append_assoc, drop_get]; exact hv
        · skip
          have hie : oth (d.drop j) = i := by have := of_decide_eq_false d1; omega
          obtain ⟨kn, hkn⟩ : ∃ kn, kn = oth (d.drop j) := ⟨_, rfl⟩
          have hst : [(kn : Int)] ++ (d.drop j).take kn ++ runs ((d.drop j).drop kn) = runs (d.drop j) := by rw [hkn, runs_o hdn hb]; rfl
          rw [← hie, ← hkn] at hv
          rw [← hkn]
          refine WL.nil ?_
          refine TW.cond rfl (fun hb => by cases hb) (fun _ => ?_)
          refine TW.exit ?_
          refine Xw.thn (by simp) ?_
          refine Xw.thn (by simp) ?_
          refine Xw.hit ?_
          refine Xw.nrm ?_
          refine TW.reg ?_
          refine WL.op rfl rfl rfl (Go.Proofs.Ytcombjhkbjbncaa.W.quiet_move rfl rfl) ?_
          refine WL.op rfl rfl rfl (Go.Proofs.Ytcombjhkbjbncaa.W.quiet_move rfl rfl) ?_
          refine WL.op rfl rfl rfl (Go.Proofs.Ytcombjhkbjbncaa.W.quiet_bin rfl rfl rfl (fun W => qb_add_int W _ _ _ _ (by omega) (by omega))) ?_
          refine WL.op rfl rfl rfl (Go.Proofs.Ytcombjhkbjbncaa.W.quiet_assign rfl rfl) ?_
          refine WL.end ?_
          refine Xw.nblk ?_
          refine Xw.any (fun a k => ?_)
          refine ⟨j + kn, by omega, by omega, _, _, (by (repeat (refine Kn.cons k rfl ?_)); exact k.base), ff, hv, hda, ?_⟩
          rw [← hxs, ← hst, ← drops]; simp only [List.append_assoc, List.cons_append, List.nil_append]
  · skip
    have hje : j = d.length := by have := of_decide_eq_false b1; omega
    rw [hje, List.drop_length, runs_nil, List.append_nil] at hxs
    subst hxs
    refine WL.nil ?_
    refine TW.cond rfl (fun hb => by cases hb) (fun _ => ?_)
    refine TW.exit ?_
    refine Xw.thn (by simp) ?_
    refine Xw.thn (by simp) ?_
    refine Xw.hit ?_
    refine Xw.nrm ?_
    refine TW.sreg ?_
    refine WL.op rfl rfl rfl (Go.Proofs.Ytcombjhkbjbncaa.W.quiet_move rfl rfl) ?_
    refine WL.op rfl rfl rfl (Go.Proofs.Ytcombjhkbjbncaa.W.quiet_assign rfl rfl) ?_
    refine WL.nil ?_
    refine TW.rt ?_
    refine bodyw_ret rfl rfl ?_
    exact ⟨_, rfl, hv, ff⟩
end Go.Proofs.Ytcombjhkbjbncaa
