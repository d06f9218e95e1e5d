/-
  A procedure's lines, as the program writes them (layer 13).
-/
import Derived.Test.YtdhagimcffmdfaaDoorQBldA
namespace Go.Proofs.YtdhagimcffmdfaaDoor
open Go.RowKit
set_option linter.unusedVariables false
set_option linter.unusedSimpArgs false
def bkA (ai : Option Addr) (ni ci : Nat) (en a t el : Int) : Array Value := #[.slice ai ni ci, .int .i64 en, .int .i64 a, .int .i64 t, .int .i64 el]
/-- Within a block: what stays while its instructions are written. -/
structure TxI (w : World) (B b bx : Nat) (ai : Option Addr) (ni ci : Nat) (en a t el : Int) (pre : List UInt8) (wr : World) : Prop where
  fr : Fr (fun _ => False) w wr
  box : wr.heap[bx]? = some (.cells #[.slice ai ni ci, .int .i64 en, .int .i64 a, .int .i64 t, .int .i64 el] 41 (0, 0))
  bld : ∃ v, Bld wr B b v pre ∧ v.ownBlock ≠ some bx
theorem row_c {w : World} {g : Nat} {cs : Array Value} {t : TypeId} (h : w.heap[g]? = some (.cells cs t (0, 0))) (j : Nat) (v : Value) (hv : cs[j]? = some v) : w.cell? ⟨g, j, none⟩ = some v := by
  rw [cell_of_row _ _ _ cs t (0, 0) h]; exact hv
theorem bld_own {w : World} {B b : Nat} {v : Value} {l : List UInt8} (h : Bld w B b v l) {j : Nat} (e : v.ownBlock = some j) : B ≤ j ∧ j < w.heap.size := World.ownsRow.lt h.row j e
/-- More is written: everything else stays. -/
theorem TxI.more {w wr w3 : World} {B b bx : Nat} {ai : Option Addr} {ni ci : Nat} {en a t el : Int} {pre pre' : List UInt8} {v v3 : Value} (hwr : Fr (fun _ => False) w wr) (hbox : wr.heap[bx]? = some (.cells #[.slice ai ni ci, .int .i64 en, .int .i64 a, .int .i64 t, .int .i64 el] 41 (0, 0))) (hv : Bld wr B b v pre) (hne : v.ownBlock ≠ some bx) (hbb : b ≠ bx) (hB : w.heap.size ≤ B)
    (h3 : Bld w3 B b v3 pre') (hf : Fr (fun k => k = b ∨ v.ownBlock = some k) wr w3) (hk : ∀ j cs T, wr.heap[j]? = some (.cells cs T (0, 0)) → T ≠ 5 → v.ownBlock ≠ some j → v3.ownBlock ≠ some j) : TxI w B b bx ai ni ci en a t el pre' w3 := by
  refine ⟨hwr.trans' hf (fun j hj e => ?_), ?_, v3, h3, hk bx _ _ hbox (by decide) hne⟩
  · rcases e with rfl | e
    · have := hv.ge; omega
    · have := (bld_own hv e).1; omega
  · rw [hf.block bx (Array.getElem?_eq_some_iff.1 hbox).1 (fun e => by
      rcases e with e | e
      · exact hbb e.symm
      · exact hne e)]
    exact hbox
theorem ints4 (W : World) (x0 x1 x2 x3 : Int) : IntsAt (W.alloc (.cells #[.int .i64 x0, .int .i64 x1, .int .i64 x2, .int .i64 x3] 3)) (some ⟨W.heap.size, 0, none⟩) [x0, x1, x2, x3] := by
  intro k hk
  refine ⟨W.heap.size, 0, rfl, ?_⟩
  rw [Nat.zero_add]
  refine fcell W _ _ k _ ?_
  match k, hk with
  | 0, _ | 1, _ | 2, _ | 3, _ => rfl
  | n + 4, h => simp at h; omega
set_option maxRecDepth 100000 in
set_option maxHeartbeats 8000000 in
theorem text_any (nm vd pa rg ob : Value) (ab : Option Addr) (cb : Nat) (l : List Bk) (hl : l.length ≤ 1000) (hok : ∀ x ∈ l, x.ok)
    (HF : ∀ x ∈ l, ∀ i ∈ x.ins, ∀ w, TabW w → Calls Tryd.prog 57 #[.int .u64 i.u, .int .i64 10] w fun e w' => e = .returned (.string ⟨(Lib.decDigits i.u.toNat).toArray⟩) ∧ Fr (fun _ => False) w w')
    (w : World) (hat : BkL w ab l) (ht : TabW w) :
    Calls Tryd.prog 21 #[.agg #[nm, vd, pa, rg, ob, .slice ab l.length cb]] w fun e w' => e = .returned (.string ⟨(textL l l.length).toArray⟩) ∧ Fr (fun _ => False) w w' := by
  have HA := Lib.hid hat
  have HT := Lib.hid ht
  have HOK := Lib.hid hok
  have HFF := Lib.hid HF
  obtain ⟨n, hn⟩ : ∃ n, l.length = n := ⟨_, rfl⟩
  have HN := Lib.hid hn
  rw [hn] at hl ⊢
  clear hat ht hok HF hn
  go_enter Tryd.func21, Tryd.ntmps21
  go_wp2
  have HB0 := Lib.hid (Bld.start (w.alloc (.cells #[nm, vd, pa, rg, ob, .slice ab n cb] 50)))
  have HF0 : Hid (Fr (fun _ => False) w ((w.alloc (.cells #[nm, vd, pa, rg, ob, .slice ab n cb] 50)).alloc (.cells #[.pointer none, .slice none 0 0] 74))) := Lib.hid (fr_al (fr_al (Fr.refl _ _) _) _)
  have es : (w.alloc (.cells #[nm, vd, pa, rg, ob, .slice ab n cb] 50)).heap.size = w.heap.size + 1 := by simp
  rw [es] at HB0
  clear es
  generalize (w.alloc (.cells #[nm, vd, pa, rg, ob, .slice ab n cb] 50)).alloc (.cells #[.pointer none, .slice none 0 0] 74) = W0 at *
  go_loopw [11] (fun q wr => ∃ k : Nat, q = .int .i64 k ∧ k ≤ n ∧ Hid (Fr (fun _ => False) w wr ∧ ∃ v, Bld wr (w.heap.size + 1) (w.heap.size + 1) v (textL l k))) (fun q _ => n - (intOf q).toNat)
  case atStart => exact ⟨0, rfl, Nat.zero_le _, Lib.hid ⟨HF0.out, _, HB0.out⟩⟩
  case round =>
    obtain ⟨k, rfl, hk, HW⟩ := hrel
    by_cases hlt : k < n
    · have hkl : k < l.length := by rw [HN.out]; exact hlt
      obtain ⟨g, o, rfl, ⟨ai, ci, c0', HIL⟩, c1', c2', c3', c4'⟩ := HA.out k hkl
      have c0 := HW.out.1.cell c0' id
      have c1 := HW.out.1.cell c1' id
      have c2 := HW.out.1.cell c2' id
      have c3 := HW.out.1.cell c3' id
      have c4 := HW.out.1.cell c4' id
      clear c0' c1' c2' c3' c4'
      have hbok := HOK.out _ (getD_mem hkl)
      have hfu := HFF.out _ (getD_mem hkl)
      have htl := textL_len l HOK.out k (by omega) (by rw [HN.out]; omega)
      have HTX : Hid (textL l (k + 1) = textL l k ++ headL k ++ inssL (l.getD k bk0).ins ++ tailL (l.getD k bk0)) := Lib.hid rfl
      generalize l.getD k bk0 = x at *
      obtain ⟨ins, en, a, t, el⟩ := x
      simp only at c0 c1 c2 c3 c4 HIL hfu
      have HOB := Lib.hid hbok
      have HFU := Lib.hid hfu
      have HIL := Lib.hid HIL
      have hni := hbok.n
      simp only at hni
      obtain ⟨ni, hnn⟩ : ∃ ni, ins.length = ni := ⟨_, rfl⟩
      have HNI := Lib.hid hnn
      rw [hnn] at c0 hni
      obtain ⟨v, hb⟩ := HW.out.2
      have HB := Lib.hid hb
      have HNE : Hid (v.ownBlock ≠ some wr.heap.size) := Lib.hid (fun e => by have := (bld_own hb e).2; omega)
      have HBB : Hid (w.heap.size + 1 < wr.heap.size) := Lib.hid hb.lt
      have HIT := Lib.hid (fun W hW => itoa_any (k : Int) (by omega) (by omega) W hW)
      have hit := Lib.itoa_length_le (k : Int) (by omega) (by omega)
      have HHD : Hid (headL k = ([98] ++ Lib.itoa (k : Int)) ++ [58, 10]) := Lib.hid rfl
      obtain ⟨IX, hIX⟩ : ∃ N : ByteArray, (⟨(Lib.itoa (k : Int)).toArray⟩ : ByteArray) = N := ⟨_, rfl⟩
      rw [hIX] at HIT
      have six : IX.size ≤ 21 := by rw [← hIX]; exact hit
      have HHS : Hid (((⟨#[98]⟩ : ByteArray) ++ IX ++ (⟨#[58, 10]⟩ : ByteArray)).data.toList = headL k) := Lib.hid (by rw [← hIX, HHD.out]; simp [ByteArray.data_append])
      have HSZ : Hid (((⟨#[98]⟩ : ByteArray) ++ IX ++ (⟨#[58, 10]⟩ : ByteArray)).size ≤ 24) := Lib.hid (by rw [ByteArray.size_append, ByteArray.size_append]; show 1 + IX.size + 2 ≤ 24; omega)
      have HTL := Lib.hid htl
      have HLN : Hid ((textL l k).length + ((⟨#[98]⟩ : ByteArray) ++ IX ++ (⟨#[58, 10]⟩ : ByteArray)).size ≤ 140737488355328) := Lib.hid (by have := HSZ.out; omega)
      have HTW : Hid (TabW (wr.alloc (.cells #[.slice ai ni ci, .int .i64 en, .int .i64 a, .int .i64 t, .int .i64 el] 41))) := Lib.hid (HT.out.fr (HW.out.1.trans (fr_al (Fr.refl _ _) _)) id)
      have HW1 := Lib.hid HW.out.1
      have HSW := Lib.hid HW.out.1.size
      clear hb hfu hbok hnn hIX hit htl hkl
      go_wp2_with first
        | (go_at_call 38; (with_reducible refine (HIT.out _ HTW.out).mono ?_); rintro e w2 ⟨rfl, hf⟩; have F2 := Lib.hid ((fr_al (Fr.refl _ wr) _).trans hf); have HX2 := Lib.hid ((hf.block wr.heap.size (by simp) id).trans (heap_alloc_new wr _)); have HB2 := Lib.hid (HB.out.fr ((fr_al (Fr.refl _ wr) _).trans hf) id (fun _ _ => id)); have HZ2 : Hid (w.heap.size + 1 ≤ w2.heap.size) := Lib.hid (by have := hf.size; simp at this; have := HBB.out; omega); clear hf)
        | (go_at_call 37; (refine (wr_any (w.heap.size + 1) (w.heap.size + 1) v (textL l k) ((⟨#[98]⟩ : ByteArray) ++ IX ++ (⟨#[58, 10]⟩ : ByteArray)) w2 HB2.out HLN.out HZ2.out).mono ?_); rintro e w3 ⟨rfl, v3, hb, hf, hk⟩; rw [HHS.out] at hb; have HI3 := Lib.hid (TxI.more (HW1.out.trans F2.out) HX2.out HB2.out HNE.out (by have := HBB.out; omega) (by omega) hb hf hk); have b0 := row_c HI3.out.box 0 _ rfl; clear hb hf hk)
      have HP0 : Hid (textL l k ++ headL k = textL l k ++ headL k) := Lib.hid rfl
      obtain ⟨pre, hpre⟩ : ∃ pre, textL l k ++ headL k = pre := ⟨_, rfl⟩
      rw [hpre] at HI3 HTX
      have HPL : Hid (pre.length ≤ 22301000 * k + 24) := Lib.hid (by rw [← hpre, List.length_append]; have := HTL.out; have := headL_len k (by omega); omega)
      have HBX : Hid (w.heap.size + 1 ≠ wr.heap.size) := Lib.hid (by have := HBB.out; omega)
      generalize wr.heap.size = bx at *
      clear hpre HP0 b0
      go_loopw [24] (fun q wx => ∃ j : Nat, q = .int .i64 j ∧ j ≤ ni ∧ Hid (TxI w (w.heap.size + 1) (w.heap.size + 1) bx ai ni ci en a t el (pre ++ inssL (ins.take j)) wx)) (fun q _ => ni - (intOf q).toNat)
      case atStart => exact ⟨0, rfl, Nat.zero_le _, Lib.hid (by rw [show ins.take 0 = [] from rfl, show inssL [] = [] from rfl, List.append_nil]; exact HI3.out)⟩
      case round =>
        obtain ⟨j, rfl, hj, HJ⟩ := hrel
        obtain ⟨vj, hbj, hnj⟩ := HJ.out.bld
        have HBJ := Lib.hid hbj
        have HNJ := Lib.hid hnj
        have HSJ := Lib.hid HJ.out.fr.size
        by_cases hji : j < ni
        · have hjl : j < ins.length := by rw [HNI.out]; exact hji
          obtain ⟨gi, oi, rfl, hins⟩ := (HIL.out.fr HJ.out.fr) j hjl
          have hmi := getD_memI (l := ins) (k := j) hjl
          have hiok := HOB.out.i _ hmi
          have hifu := HFU.out _ hmi
          have HTK : Hid (inssL (ins.take (j + 1)) = inssL (ins.take j) ++ innL (ins.getD j inn0)) := Lib.hid (by rw [inn_take hjl, inssL_snoc])
          have htkl : (inssL (ins.take j)).length ≤ 22300 * j := by
            have h1 := inssL_len (ins.take j) (fun y hy => HOB.out.i y (List.mem_of_mem_take hy))
            have h2 : (ins.take j).length ≤ j := List.length_take_le _ _
            omega
          have hil := innL_len _ hiok
          generalize ins.getD j inn0 = ii at *
          obtain ⟨x0, x1, x2, x3, x4, x5, x6, x7, u, args, lg⟩ := ii
          obtain ⟨d0, d1, d2, d3, d4, d5, d6, d7, d8, ⟨a9, c9, d9, da⟩, d10⟩ := hins
          simp only at d0 d1 d2 d3 d4 d5 d6 d7 d8 d9 da d10 hifu
          have HLI := Lib.hid (fun (W : World) (h : Fr (fun _ => False) wr W) => line_any x0 x1 x2 x3 x4 x5 x6 x7 u a9 c9 args lg (Lib.decDigits u.toNat) (decDigits_len _ (by have := hiok.u1; simp only at this; omega)) hiok.n hiok.r hiok.ra hiok.u0 hiok.u1 hifu W (da.fr h) (HT.out.fr (HJ.out.fr.trans h) id))
          have HLW : Hid ((pre ++ inssL (ins.take j)).length + (ByteArray.mk (innL ⟨x0, x1, x2, x3, x4, x5, x6, x7, u, args, lg⟩).toArray).size ≤ 140737488355328) := Lib.hid (by
            have := HPL.out
            rw [show (ByteArray.mk (innL ⟨x0, x1, x2, x3, x4, x5, x6, x7, u, args, lg⟩).toArray).size = (innL ⟨x0, x1, x2, x3, x4, x5, x6, x7, u, args, lg⟩).length from rfl, List.length_append]
            omega)
          have HII : Hid (lineL (numsL [x0, x1, x2, x3, x4, x5, x6, x7]) (Lib.decDigits u.toNat) (numsL args) lg = innL ⟨x0, x1, x2, x3, x4, x5, x6, x7, u, args, lg⟩) := Lib.hid rfl
          rw [HII.out] at HLI
          generalize innL ⟨x0, x1, x2, x3, x4, x5, x6, x7, u, args, lg⟩ = il at *
          generalize args.length = n9 at *
          have HBJX := Lib.hid HJ.out.box
          clear hmi hiok hifu htkl hil da hbj hnj HII
          go_wp2_with first
            | (go_at_call 39; (with_reducible refine (HLI.out _ (fr_al (Fr.refl _ _) _)).mono ?_); rintro e w5 ⟨rfl, hf⟩; have F5 := Lib.hid ((fr_al (Fr.refl _ wr) _).trans hf); have HX5 := Lib.hid ((F5.out.block bx (Array.getElem?_eq_some_iff.1 HBJX.out).1 id).trans HBJX.out); have HB5 := Lib.hid (HBJ.out.fr F5.out id (fun _ _ => id)); have HZ5 : Hid (w.heap.size + 1 ≤ w5.heap.size) := Lib.hid (by have := F5.out.size; have := HBJ.out.lt; omega); clear hf)
            | (go_at_call 37; (refine (wr_any (w.heap.size + 1) (w.heap.size + 1) vj (pre ++ inssL (ins.take j)) (ByteArray.mk il.toArray) w5 HB5.out HLW.out HZ5.out).mono ?_); rintro e w6 ⟨rfl, v6, hb, hf, hk⟩; have HI6 := Lib.hid (TxI.more (HJ.out.fr.trans F5.out) HX5.out HB5.out HNJ.out HBX.out (by omega) hb hf hk); clear hb hf hk)
          go_roundw
          case rel => exact ⟨j + 1, by go_num, by omega, Lib.hid (by rw [HTK.out, ← List.append_assoc]; exact HI6.out)⟩
          case measure => simp [intOf]; omega
        · obtain rfl : j = ni := by omega
          have htk : ins.take j = ins := by rw [← HNI.out, List.take_length]
          have HJB := Lib.hid HJ.out.box
          have b1 := row_c HJB.out 1 _ rfl
          have b2 := row_c HJB.out 2 _ rfl
          have b3 := row_c HJB.out 3 _ rfl
          have b4 := row_c HJB.out 4 _ rfl
          have hr4 : ∀ y ∈ [en, a, t, el], InR y := HOB.out.r
          have hn4 := numsL_len [en, a, t, el] hr4
          have HNB : Hid (Calls Tryd.prog 40 #[.slice (some ⟨wr.heap.size, 0, none⟩) 4 4] (wr.alloc (.cells #[.int .i64 en, .int .i64 a, .int .i64 t, .int .i64 el] 3)) fun e w' => e = .returned (.string ⟨(numsL [en, a, t, el]).toArray⟩) ∧ Fr (fun _ => False) (wr.alloc (.cells #[.int .i64 en, .int .i64 a, .int .i64 t, .int .i64 el] 3)) w') :=
            Lib.hid (numbers_any _ 4 _ (by simp) hr4 _ (ints4 wr en a t el) (HT.out.fr (HJ.out.fr.trans (fr_al (Fr.refl _ _) _)) id))
          have HTAIL : Hid (tailL ⟨ins, en, a, t, el⟩ = ([32, 101, 110, 100] ++ numsL [en, a, t, el]) ++ [10]) := Lib.hid rfl
          have hpl : (inssL (ins.take j)).length ≤ 22300 * j := by
            have h1 := inssL_len (ins.take j) (fun y hy => HOB.out.i y (List.mem_of_mem_take hy))
            have h2 : (ins.take j).length ≤ j := List.length_take_le _ _
            omega
          obtain ⟨NX, hNX⟩ : ∃ N : ByteArray, (⟨(numsL [en, a, t, el]).toArray⟩ : ByteArray) = N := ⟨_, rfl⟩
          have snx : NX.size ≤ 88 := by rw [← hNX]; exact hn4
          have HTS : Hid (((⟨#[32, 101, 110, 100]⟩ : ByteArray) ++ NX ++ (⟨#[10]⟩ : ByteArray)).data.toList = tailL ⟨ins, en, a, t, el⟩) := Lib.hid (by rw [← hNX, HTAIL.out]; simp [ByteArray.data_append])
          rw [hNX] at HNB
          have HTZ : Hid (((⟨#[32, 101, 110, 100]⟩ : ByteArray) ++ NX ++ (⟨#[10]⟩ : ByteArray)).size ≤ 93) := Lib.hid (by rw [ByteArray.size_append, ByteArray.size_append]; show 4 + NX.size + 1 ≤ 93; omega)
          have HLT2 : Hid ((pre ++ inssL (ins.take j)).length + ((⟨#[32, 101, 110, 100]⟩ : ByteArray) ++ NX ++ (⟨#[10]⟩ : ByteArray)).size ≤ 140737488355328) := Lib.hid (by have := HTZ.out; have := HPL.out; rw [List.length_append]; omega)
          have HPI : Hid (pre ++ inssL (ins.take j) ++ tailL ⟨ins, en, a, t, el⟩ = textL l (k + 1)) := Lib.hid (by rw [HTX.out, htk])
          obtain ⟨pp, hpp⟩ : ∃ pp, pre ++ inssL (ins.take j) = pp := ⟨_, rfl⟩
          rw [hpp] at HBJ HLT2 HPI
          clear htk hr4 hn4 hpl hNX hbj hnj hpp
          go_wp2_with first
            | (go_at_call 40; (with_reducible refine HNB.out.mono ?_); rintro e w5 ⟨rfl, hf⟩; have F5 := Lib.hid ((fr_al (Fr.refl _ wr) _).trans hf); have HX5 := Lib.hid ((F5.out.block bx (Array.getElem?_eq_some_iff.1 HJB.out).1 id).trans HJB.out); have HB5 := Lib.hid (HBJ.out.fr F5.out id (fun _ _ => id)); have HZ5 : Hid (w.heap.size + 1 ≤ w5.heap.size) := Lib.hid (by have := F5.out.size; have := HBJ.out.lt; omega); clear hf)
            | (go_at_call 37; (refine (wr_any (w.heap.size + 1) (w.heap.size + 1) vj pp ((⟨#[32, 101, 110, 100]⟩ : ByteArray) ++ NX ++ (⟨#[10]⟩ : ByteArray)) w5 HB5.out HLT2.out HZ5.out).mono ?_); rintro e w6 ⟨rfl, v6, hb, hf, hk⟩; rw [HTS.out] at hb; have HI6 := Lib.hid (TxI.more (HJ.out.fr.trans F5.out) HX5.out HB5.out HNJ.out HBX.out (by omega) hb hf hk); clear hb hf hk)
          go_roundw
          case rel => exact ⟨k + 1, by go_num, by omega, Lib.hid ⟨HI6.out.fr, by obtain ⟨v, h, _⟩ := HI6.out.bld; exact ⟨v, by rw [← HPI.out]; exact h⟩⟩⟩
          case measure => simp [intOf]; omega
    · obtain rfl : k = n := by omega
      obtain ⟨v, hb⟩ := HW.out.2
      have HS := Lib.hid (str_any (w.heap.size + 1) (w.heap.size + 1) v (textL l k) wr hb (Nat.le_of_lt hb.lt))
      clear hb
      go_wp2_with (go_at_call 41; (with_reducible refine HS.out.mono ?_); rintro e w2 ⟨rfl, hf⟩; have F2 := Lib.hid hf; clear hf)
      go_ret
      exact ⟨rfl, HW.out.1.trans' F2.out (fun j hj e => by omega)⟩
end Go.Proofs.YtdhagimcffmdfaaDoor
