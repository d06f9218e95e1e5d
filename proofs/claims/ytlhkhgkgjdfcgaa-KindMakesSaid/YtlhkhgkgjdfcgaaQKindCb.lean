/-
  The document's own tables of types (layer 8): Struct lays its fields.
-/
import Derived.Test.YtlhkhgkgjdfcgaaQKindBb
import Derived.Test.YtlhkhgkgjdfcgaaQKindJa
import Derived.Deep.RegionLaw
import Derived.Deep.AppendLies
import Derived.LoopTactic
import Derived.Outline
namespace Go.Proofs.Ytlhkhgkgjdfcgaa
open Go.RowKit
set_option linter.unusedVariables false
set_option linter.unusedSimpArgs false
/-- The first k fields, placed. -/
def ownF (sz al : Int → Int) (fs : List Fld) (k : Nat) : List Fld := (List.range k).map fun i => ⟨(fs.getD i fld0).name, (fs.getD i fld0).type, upI (endF sz al fs i) (al (fs.getD i fld0).type)⟩
theorem ownF_succ (sz al : Int → Int) (fs : List Fld) (k : Nat) (f : Fld) (hf : fs.getD k fld0 = f) : (ownF sz al fs (k + 1)).flatMap Fld.vals = (ownF sz al fs k).flatMap Fld.vals ++ [.string f.name, .int .i64 f.type, .int .i64 (upI (endF sz al fs k) (al f.type))] := by
  unfold ownF
  rw [List.range_succ, List.map_append, List.flatMap_append]
  subst hf
  simp [Fld.vals]
theorem ownF_len (sz al : Int → Int) (fs : List Fld) (k : Nat) : (ownF sz al fs k).length = k := by simp [ownF]
theorem fld_own {w : World} {base e n : Nat} {v : Value} {fs : List Fld} (h : w.ownsRow base e 3 v n (fs.flatMap Fld.vals)) (hn : n = fs.length) : ∃ fa fc, v = .slice fa n fc ∧ FldAt w fa n fs ∧ ∀ g o, fa = some ⟨g, o, none⟩ → base ≤ g := by
  by_cases hv : v = .slice none 0 0
  · have h0 : n = 0 := by
      rcases h.2 with ⟨_, e⟩ | ⟨g, c, cur, e, _⟩
      · exact e
      · rw [hv] at e; cases e
    subst h0
    exact ⟨none, 0, hv, ⟨hn, fun k hk => by omega⟩, fun g o e => by cases e⟩
  · obtain ⟨g, c, e, _⟩ := own_form h hv
    subst e
    refine ⟨some ⟨g, 0, none⟩, c, rfl, ⟨hn, fun k hk => ⟨g, 0, rfl, fun j hj => ?_⟩⟩, fun g' o e => by injection e with e; injection e with e; subst e; exact (h.lt _ rfl).1⟩
    rw [Nat.zero_add, h.cellAt (k * 3 + j) (by have := fvals_len fs; omega)]
    exact fvals_get fs k hk j hj
def laidR (nm : ByteArray) (a : Option Addr) (n c : Nat) : RT := ⟨5, 0, 0, nm, a, n, c, false⟩
set_option maxRecDepth 100000 in
set_option maxHeartbeats 4000000 in
theorem rstruct_go' {rs : List RT} {F : Nat → List Fld} {sz al : Int → Int} {rk : Int → Nat} (D : Doc rs F sz al rk) (hfew : rs.length ≤ 1000) {w : World} {a : Option Addr} {c : Nat} (h : DocAt w a rs F) (nm : ByteArray) (fa : Option Addr) (fn fc : Nat) (fs : List Fld) (hfs : FldAt w fa fn fs) (hf1 : fs.length ≤ 1000)
    (hk : rfind rs nm < rs.length) (ho : (rs.getD (rfind rs nm) rt0).opn = true) (hm : mayV rs sz fs = 0) (hal : ∀ f ∈ fs, 1 ≤ al f.type) (hend : endF sz al fs fs.length ≤ 1000000000)
    (Z : Int) (HZ : Hid (∀ W av cv fa' fc', DocAt W av (rs.set (rfind rs nm) (laidR nm fa' fs.length fc')) (fun i => if i = rfind rs nm then ownF sz al fs fs.length else F i) → Calls Try.prog 15 #[.slice av rs.length cv, .int .i64 (rfind rs nm : Int)] W fun r w' => r = .returned (.int .i64 Z) ∧ Fr (fun _ => False) W w'))
    (P : Ending → World → Prop) (HP : Hid (∀ fa' fc' r w', FldAt w' fa' fs.length (ownF sz al fs fs.length) → (∀ g o, fa' = some ⟨g, o, none⟩ → w.heap.size ≤ g) → MadeP w a rs (if 32768 < Z then 0 else (rfind rs nm : Int)) (if 32768 < Z then 2 else 0) (if 32768 < Z then rs else rs.set (rfind rs nm) (laidR nm fa' fs.length fc')) r w' → P r w')) :
    Calls Try.prog 32 #[.slice a rs.length c, .string nm, .slice fa fn fc] w P := by
  obtain ⟨i0, hi0, hz0, hz1, hz2⟩ := info_parts info_rfield
  obtain ⟨j0, hj0, hj1, hj2, hj3⟩ := info_parts info_rt
  have hn := hfs.1
  have hfn : fn ≤ 1000 := by omega
  have HN := Lib.hid hn
  have HD := Lib.hid h
  have HFS := Lib.hid hfs
  have HB := Lib.hid (BoxM.start w)
  have hfa : Fr (fun _ => False) w (w.alloc (.cells #[.int .i64 0, .slice none 0 0, .int .i64 0] 31)) := fr_al (Fr.refl _ _) _
  have HFI : Hid (Calls Try.prog 22 #[.slice a rs.length c, .string nm] (w.alloc (.cells #[.int .i64 0, .slice none 0 0, .int .i64 0] 31)) fun r w' => r = .returned (.int .i64 (rfind rs nm : Int)) ∧ BoxM w w') :=
    Lib.hid ((rfind_of (h.1.quiet hfa) hfew nm).mono fun r w' hr => by
      obtain ⟨e1, e2⟩ := rfindP_found hr hk
      exact ⟨e1, (BoxM.start w).quiet e2⟩)
  have HM2 : Hid (∀ W, BoxM w W → Calls Try.prog 44 #[.slice a rs.length c, .slice fa fn fc] W fun r w' => r = .returned (.int .i64 0) ∧ BoxM w w') := Lib.hid (fun W hW => (may_of D hfew W a c (h.quiet hW.fr) fa fn fc fs (hfs.quiet hW.fr) hf1).mono fun r w' hr => by rw [hm] at hr; exact ⟨hr.1, hW.quiet hr.2⟩)
  have HAL : Hid (∀ m W, Fr (fun _ => False) w W → Calls Try.prog 17 #[.slice a rs.length c, .int .i64 m] W fun r w' => r = .returned (.int .i64 (al m)) ∧ W = w') := Lib.hid (fun m W hW => ralign_of D hfew (rk m) m (Nat.le_refl _) W a c (h.quiet hW))
  have HSZ : Hid (∀ m W, Fr (fun _ => False) w W → Calls Try.prog 15 #[.slice a rs.length c, .int .i64 m] W fun r w' => r = .returned (.int .i64 (sz m)) ∧ Fr (fun _ => False) W w') := Lib.hid (fun m W hW => rsize_of D hfew (rk m) m (Nat.le_refl _) W a c (h.quiet hW))
  have hs0 : ∀ m, 0 ≤ sz m := fun m => (D.bnd m).1
  have HUP := Lib.hid (fun (i : Nat) (hi : i < fs.length) (f : Fld) (hf : fs.getD i fld0 = f) => And.intro (endF_up hs0 hal hi hf) (And.intro (endF_ge hs0 hal i (by omega)) (And.intro (Int.le_trans (endF_le hs0 hal (fs.length - (i + 1)) (i + 1) (by omega)) hend) (And.intro (hal f (by rw [← hf]; exact getD_mem hi)) ((D.bnd f.type).2.2.2)))))
  obtain ⟨g, rfl, hcell⟩ := h.1.2 _ hk
  have HC : Hid (∀ W, Fr (fun _ => False) w W → W.cell? ⟨g, rfind rs nm * 6 + 5, none⟩ = some (.bool true)) := Lib.hid (fun W hW => by
    have := hcell 5 (by decide)
    have e : (rs.getD (rfind rs nm) rt0).vals[5]? = some (.bool (rs.getD (rfind rs nm) rt0).opn) := rfl
    rw [e, ho] at this
    exact hW.cell this id)
  have HK := Lib.hid hk
  obtain ⟨k0, hk0⟩ : ∃ k0, rfind rs nm = k0 := ⟨_, rfl⟩
  rw [hk0] at HFI HC HZ HK hk HP
  obtain ⟨L, hL⟩ : ∃ L, rs.length = L := ⟨_, rfl⟩
  have hkk : (k0 : Int) < L := by omega
  have HLL := Lib.hid hL
  rw [hL] at HFI HM2 HAL HSZ HZ hfew ⊢
  have t0 : (0 : Int) ≤ k0 := by omega
  have d0 : decide ((k0 : Int) < 0) = false := decide_eq_false (by omega)
  clear h hfa hcell hk ho hm hs0 hal hend D hk0 hL hfs hf1 hn
  go_enter Try.func32, Try.ntmps32
  go_wp2_with (first
    | (go_at_call 22; (with_reducible refine HFI.out.mono ?_); rintro r w1 ⟨rfl, hb⟩; have HB1 := Lib.hid hb; have q5 := HC.out w1 hb.fr; clear hb)
    | (go_at_call 44; (with_reducible refine (HM2.out w1 HB1.out).mono ?_); rintro r w2 ⟨rfl, hb⟩; have HB2 := Lib.hid hb; clear hb))
  go_loopw [8, 9, 10] (fun v e q wl => ∃ i : Nat, q = .int .i64 i ∧ i ≤ fn ∧ e = .int .i64 (endF sz al fs i) ∧ Hid (BoxM w wl) ∧ Hid (wl.ownsRow (w.heap.size + 1) 57 3 v i ((ownF sz al fs i).flatMap Fld.vals))) (fun _ _ q _ => fn - (intOf q).toNat)
  case atStart => exact ⟨0, rfl, Nat.zero_le _, rfl, HB2, Lib.hid (World.ownsRow_nil _ _ _ _)⟩
  case round =>
    obtain ⟨i, rfl, hi, rfl, HW, HO⟩ := hrel
    have hsz := HW.out.sz
    by_cases hli : i < fn
    · obtain ⟨g2, o2, ha2, hc2⟩ := HFS.out.2 i (by have := HN.out; omega)
      obtain ⟨f, hf⟩ : ∃ f, fs.getD i fld0 = f := ⟨_, rfl⟩
      rw [hf] at hc2
      have HY0 : Hid (∀ W, Fr (fun _ => False) w W → W.cell? ⟨g2, o2 + i * 3, none⟩ = some (.string f.name)) := Lib.hid (fun W hW => hW.cell (hc2 0 (by decide)) id)
      have HY1 : Hid (∀ W, Fr (fun _ => False) w W → W.cell? ⟨g2, o2 + i * 3 + 1, none⟩ = some (.int .i64 f.type)) := Lib.hid (fun W hW => hW.cell (hc2 1 (by decide)) id)
      have y0 := HY0.out wr HW.out.fr
      have y1 := HY1.out wr HW.out.fr
      have HNX := Lib.hid (endF_succ sz al fs i f (by have := HN.out; omega) hf)
      have HOX := Lib.hid (ownF_succ sz al fs i f hf)
      obtain ⟨⟨u1, u2⟩, u3, u4, u5, u6⟩ := HUP.out i (by have := HN.out; omega) f hf
      obtain ⟨E, hE⟩ : ∃ E, endF sz al fs i = E := ⟨_, rfl⟩
      obtain ⟨B, hB⟩ : ∃ B, al f.type = B := ⟨_, rfl⟩
      obtain ⟨S, hS⟩ : ∃ S, sz f.type = S := ⟨_, rfl⟩
      rw [hE, hB] at u1 HOX
      rw [hE, hB, HNX.out, hE, hB, hS] at u2
      rw [HNX.out, hE, hB, hS] at u4
      rw [hE] at u3
      rw [hB] at u5 u6
      rw [hE, hB, hS] at HNX
      have HALF : Hid (Calls Try.prog 17 #[.slice (some ⟨g, 0, none⟩) L c, .int .i64 f.type] wr fun r w' => r = .returned (.int .i64 B) ∧ wr = w') := Lib.hid (by rw [← hB]; exact HAL.out f.type wr HW.out.fr)
      have HSZF : Hid (∀ W, BoxM w W → Calls Try.prog 15 #[.slice (some ⟨g, 0, none⟩) L c, .int .i64 f.type] W fun r w' => r = .returned (.int .i64 S) ∧ BoxM w w' ∧ Fr (fun _ => False) W w') := Lib.hid (fun W hW => by rw [← hS]; exact (HSZ.out f.type W hW.fr).mono fun r w' hr => ⟨hr.1, hW.quiet hr.2, hr.2⟩)
      have HNXT : Hid (∀ W, Calls Try.prog 35 #[.int .i64 E, .int .i64 B] W fun r w' => r = .returned (.int .i64 (upI E B)) ∧ W = w') := Lib.hid (fun W => next_of E B ⟨u3, by omega⟩ ⟨u5, by omega⟩ W)
      obtain ⟨U, hU⟩ : ∃ U, upI E B = U := ⟨_, rfl⟩
      rw [hU] at u1 u2 u4 HNX HNXT HOX
      rw [hE]
      have t2 : (0 : Int) ≤ i := by omega
      have t3 : (i : Int) < fn := by omega
      clear hc2 hf hB hS hE hU
      subst ha2
      go_wp2_with (first
        | (go_at_call 17; (with_reducible refine HALF.out.mono ?_); rintro r w5 ⟨rfl, rfl⟩)
        | (go_at_call 35; (with_reducible refine (HNXT.out _).mono ?_); rintro r w5 ⟨rfl, rfl⟩))
      go_region_law
        ((refine step_append_lies _ (by rfl) _ _ _ (by rfl) (w.heap.size + 1) 57 i0 _ 3 32 Try.underlying44 hi0 hz0 hz1 hz2 rfl (by decide) u8 i _ (by rfl) ((HO.out.alloc _).drew) ⟨wr.heap.size, 0, none⟩ 1 1 [.string f.name, .int .i64 f.type, .int .i64 U] (by rfl) (by rfl) (World.news_of_block (cs := #[.string f.name, .int .i64 f.type, .int .i64 U]) (t := 57) (fr := (0, 0)) (heap_alloc_new wr _)) (by simp [Value.oneCell']) (by decide) (by unfold maxLen; omega) (by omega) (by simp; omega) (wr.heap.size + 1) (by simp) ?_; intro gg cap w5 hown5 hgrow5 hat5 hlt5; have HO5 := Lib.hid hown5; have HW5 := Lib.hid (HW.out.grow (((fr_al (Fr.refl (fun j => u8.ownBlock = some j) wr) (.cells #[.string f.name, .int .i64 f.type, .int .i64 U] 57)).drewN 1).trans (Fr.of_by hgrow5)) (fun j hj e => by have := (HO.out.lt j e).1; omega)); have y5 := HY1.out w5 HW5.out.fr; clear hown5 hgrow5 hat5 hlt5))
      all_goals
        go_wp2_with (go_at_call 15; (with_reducible refine (HSZF.out _ HW5.out).mono ?_); rintro r w6 ⟨rfl, hb6, hf6⟩; have HB6 := Lib.hid hb6; have HF6 := Lib.hid hf6; clear hb6 hf6)
        go_roundw
        case rel => exact ⟨i + 1, by go_num, by omega, by rw [HNX.out], HB6, Lib.hid (by rw [HOX.out]; exact own_new HO5.out HF6.out)⟩
        case measure => simp [intOf]; omega
    · obtain rfl : fn = i := by omega
      obtain ⟨fa', fc', rfl, hfl, hflb⟩ := fld_own HO.out (by rw [ownF_len])
      obtain ⟨W1, rfl⟩ : ∃ W1, W1 = wr := ⟨_, rfl⟩
      have HFL : Hid (∀ w', Fr (fun q => q = w.heap.size) W1 w' → FldAt w' fa' fs.length (ownF sz al fs fs.length)) := Lib.hid (fun w' hf => by rw [← HN.out]; exact hfl.kept hf (fun g o e _ hq => by have := hflb g o e; omega))
      have HC6 : Hid (∀ W, Fr (fun _ => False) W1 W → ∀ j, j < L → ∀ i, i < 6 → W.cell? ⟨g, j * 6 + i, none⟩ = (rs.getD j rt0).vals[i]?) := Lib.hid (fun W hW j hj i hi => by
        obtain ⟨g', e1, hc⟩ := HD.out.1.2 j (by rw [HLL.out]; exact hj)
        injection e1 with e1
        injection e1 with e1
        subst e1
        obtain ⟨x, h1⟩ : ∃ x, (rs.getD j rt0).vals[i]? = some x := ⟨_, List.getElem?_eq_getElem (by simpa [RT.vals] using hi)⟩
        rw [h1]
        exact hW.cell (HW.out.fr.cell ((hc i hi).trans h1) id) id)
      have HRAT : Hid (RAt w (some ⟨g, 0, none⟩) L rs) := Lib.hid (by rw [← HLL.out]; exact HD.out.1)
      obtain ⟨rs', hrs'⟩ : ∃ rs', rs.set k0 (laidR nm fa' fn fc') = rs' := ⟨_, rfl⟩
      have HLN : Hid (rs'.length = L) := Lib.hid (by rw [← hrs', List.length_set, HLL.out])
      have HX : Hid (rs'.getD k0 rt0 = laidR nm fa' fn fc') := Lib.hid (by rw [← hrs', List.getD_eq_getElem?_getD, List.getElem?_set_self (by have := HLL.out; omega)]; rfl)
      have HXN : Hid (∀ j, j ≠ k0 → rs'.getD j rt0 = rs.getD j rt0) := Lib.hid (fun j hj => by rw [← hrs', List.getD_eq_getElem?_getD, List.getElem?_set_ne (fun e => hj e.symm), List.getD_eq_getElem?_getD])
      have HDOC : Hid (∀ W av, Fr (fun _ => False) W1 W → RAt W av L rs' → DocAt W av rs' (fun i => if i = k0 then ownF sz al fs fs.length else F i)) := Lib.hid (fun W av hW hr => by
        refine ⟨by rw [HLN.out]; exact hr, fun k hk => ?_⟩
        by_cases hkk : k = k0
        · subst hkk
          rw [HX.out]
          dsimp only
          rw [if_pos rfl]
          exact ⟨by have := HFL.out W (hW.mono (fun _ _ f => f.elim)); rw [← HN.out] at this ⊢; exact this, by rw [ownF_len, ← HN.out]; exact hfn⟩
        · rw [HXN.out k hkk]
          dsimp only
          rw [if_neg hkk]
          have := HD.out.2 k (by rw [HLL.out]; rw [HLN.out] at hk; exact hk)
          exact ⟨this.1.quiet (HW.out.fr.trans' hW (fun _ _ f => f)), this.2⟩)
      have HPF : Hid (∀ r w', Fr (fun q => q = w.heap.size) W1 w' → MadeP w (some ⟨g, 0, none⟩) rs (if 32768 < Z then 0 else (k0 : Int)) (if 32768 < Z then 2 else 0) (if 32768 < Z then rs else rs') r w' → P r w') := Lib.hid (fun r w' hf hm => HP.out fa' fc' r w' (HFL.out w' hf) (fun g o e => by have := hflb g o e; omega) (by rw [← HN.out, hrs']; exact hm))
      have HZF : Hid (∀ W g5 cv, Fr (fun _ => False) W1 W → RAt W (some ⟨g5, 0, none⟩) L rs' → Calls Try.prog 15 #[.slice (some ⟨g5, 0, none⟩) L cv, .int .i64 (k0 : Int)] W fun r w' => r = .returned (.int .i64 Z) ∧ Fr (fun _ => False) W w') := Lib.hid (fun W g5 cv hW hr => HZ.out W (some ⟨g5, 0, none⟩) cv fa' fc' (by rw [← HN.out, hrs']; have := HDOC.out W _ hW hr; rw [← HN.out] at this; exact this))
      have HS0 : Hid (Fr (fun _ => False) W1 W1) := Lib.hid (Fr.refl _ _)
      have HB9 := HW
      clear hfl hflb hrs' hsz HUP HFI HC HSZ HAL HM2 HB1 HB2 HB HW q5 HO HFS HZ HP HFL HD
      go_wp2
      go_loopw [12, 13] (fun v q wl => ∃ j : Nat, q = .int .i64 j ∧ j ≤ L ∧ Hid (Fr (fun _ => False) W1 wl) ∧ Hid (wl.ownsRow W1.heap.size 46 6 v j ((rs'.take j).flatMap RT.vals))) (fun _ q _ => L - (intOf q).toNat)
      case atStart => exact ⟨0, rfl, Nat.zero_le _, HS0, Lib.hid (World.ownsRow_nil _ _ _ _)⟩
      case round =>
        obtain ⟨j, rfl, hj, HW, HO⟩ := hrel
        have hsz := HW.out.size
        by_cases hlj : j < L
        · obtain ⟨e, he⟩ : ∃ e, rs.getD j rt0 = e := ⟨_, rfl⟩
          have HE := Lib.hid he
          have HJ := HC6.out wr HW.out j hlj
          rw [he] at HJ
          have q0 : wr.cell? ⟨g, j * 6, none⟩ = some (.int .i64 e.kind) := HJ 0 (by decide)
          have q1 : wr.cell? ⟨g, j * 6 + 1, none⟩ = some (.int .i64 e.elem) := HJ 1 (by decide)
          have q2 : wr.cell? ⟨g, j * 6 + 2, none⟩ = some (.int .i64 e.len) := HJ 2 (by decide)
          have q3 : wr.cell? ⟨g, j * 6 + 3, none⟩ = some (.string e.name) := HJ 3 (by decide)
          have q4 : wr.cell? ⟨g, j * 6 + 4, none⟩ = some (.slice e.fa e.fn e.fc) := HJ 4 (by decide)
          have q5 : wr.cell? ⟨g, j * 6 + 5, none⟩ = some (.bool e.opn) := HJ 5 (by decide)
          have t4 : (0 : Int) ≤ j := by omega
          have t5 : (j : Int) < L := by omega
          clear HJ he
          by_cases hjk : j = k0
          · subst hjk
            have b0 : ((j : Int) == j) = true := by simp
            go_wp2_with (at_builtin; (refine wpList_append_lies _ (by rfl) _ _ 27 (by rfl) W1.heap.size 46 j0 _ 6 72 Try.underlying27 hj0 hj1 hj2 hj3 rfl (by decide) u12 j _ (by rfl) (own_new HO.out (fr_al (fr_al (Fr.refl _ _) _) _)) ⟨wr.heap.size + 1, 0, none⟩ 1 1 [.int .i64 5, .int .i64 0, .int .i64 0, .string nm, .slice fa' fn fc', .bool false] (by rfl) (by rfl) (World.news_of_block (cs := #[.int .i64 5, .int .i64 0, .int .i64 0, .string nm, .slice fa' fn fc', .bool false]) (t := 46) (fr := (0, 0)) (by simpa using heap_alloc_new (wr.alloc (.cells #[.int .i64 5, .int .i64 0, .int .i64 0, .string nm, .slice fa' fn fc', .bool false] 46)) (.cells #[.int .i64 5, .int .i64 0, .int .i64 0, .string nm, .slice fa' fn fc', .bool false] 46))) (by simp [Value.oneCell']) (by decide) (by unfold maxLen; omega) (by omega) (by simp; omega) _ rfl ?_; intro gg cap w5 hown5 hgrow5 hat5 hlt5; have HO5 := Lib.hid hown5; have HW5 := Lib.hid (HW.out.trans' ((fr_al (fr_al (Fr.refl (fun q => u12.ownBlock = some q) wr) (.cells #[.int .i64 5, .int .i64 0, .int .i64 0, .string nm, .slice fa' fn fc', .bool false] 46)) (.cells #[.int .i64 5, .int .i64 0, .int .i64 0, .string nm, .slice fa' fn fc', .bool false] 46)).trans (Fr.of_by hgrow5)) (fun q hq e => by have := (HO.out.lt q e).1; omega)); clear hown5 hgrow5 hat5 hlt5))
            go_roundw
            case rel => exact ⟨j + 1, by go_num, by omega, HW5, Lib.hid (by rw [take_flat rs' j (laidR nm fa' fn fc') (by have := HLN.out; omega) HX.out]; exact HO5.out)⟩
            case measure => simp [intOf]; omega
          · have b0 : ((j : Int) == k0) = false := by rw [beq_eq_false_iff_ne]; omega
            go_wp2_with (at_builtin; (refine wpList_append_lies _ (by rfl) _ _ 27 (by rfl) W1.heap.size 46 j0 _ 6 72 Try.underlying27 hj0 hj1 hj2 hj3 rfl (by decide) u12 j _ (by rfl) (own_new HO.out (fr_al (fr_al (Fr.refl _ _) _) _)) ⟨wr.heap.size + 1, 0, none⟩ 1 1 [.int .i64 e.kind, .int .i64 e.elem, .int .i64 e.len, .string e.name, .slice e.fa e.fn e.fc, .bool e.opn] (by rfl) (by rfl) (World.news_of_block (cs := #[.int .i64 e.kind, .int .i64 e.elem, .int .i64 e.len, .string e.name, .slice e.fa e.fn e.fc, .bool e.opn]) (t := 46) (fr := (0, 0)) (by simpa using heap_alloc_new (wr.alloc (.cells #[.int .i64 e.kind, .int .i64 e.elem, .int .i64 e.len, .string e.name, .slice e.fa e.fn e.fc, .bool e.opn] 46)) (.cells #[.int .i64 e.kind, .int .i64 e.elem, .int .i64 e.len, .string e.name, .slice e.fa e.fn e.fc, .bool e.opn] 46))) (by simp [Value.oneCell']) (by decide) (by unfold maxLen; omega) (by omega) (by simp; omega) _ rfl ?_; intro gg cap w5 hown5 hgrow5 hat5 hlt5; have HO5 := Lib.hid hown5; have HW5 := Lib.hid (HW.out.trans' ((fr_al (fr_al (Fr.refl (fun q => u12.ownBlock = some q) wr) (.cells #[.int .i64 e.kind, .int .i64 e.elem, .int .i64 e.len, .string e.name, .slice e.fa e.fn e.fc, .bool e.opn] 46)) (.cells #[.int .i64 e.kind, .int .i64 e.elem, .int .i64 e.len, .string e.name, .slice e.fa e.fn e.fc, .bool e.opn] 46)).trans (Fr.of_by hgrow5)) (fun q hq e => by have := (HO.out.lt q e).1; omega)); clear hown5 hgrow5 hat5 hlt5))
            go_roundw
            case rel => exact ⟨j + 1, by go_num, by omega, HW5, Lib.hid (by rw [take_flat rs' j e (by have := HLN.out; omega) ((HXN.out j hjk).trans HE.out)]; exact HO5.out)⟩
            case measure => simp [intOf]; omega
        · obtain rfl : L = j := by omega
          have hown := HO.out
          rw [List.take_of_length_le (by have := HLN.out; omega)] at hown
          obtain ⟨g5, cap, rfl, hg5, hg6⟩ := hown.form (by omega)
          have HOF := Lib.hid hown
          have HZC := Lib.hid (HZF.out wr g5 cap HW.out (RAt.of_own hown HLN.out.symm))
          have hsz9 := HB9.out.sz
          clear hown
          have HBX : Hid (∀ w7, Fr (fun _ => False) wr w7 → BoxM w w7) := Lib.hid (fun w7 hf => (HB9.out.quiet HW.out).quiet hf)
          have hlt9 : w.heap.size < W1.heap.size := by omega
          have HAD : Hid (g5 < wr.heap.size ∧ w.heap.size ≤ g5) := Lib.hid ⟨(HOF.out.lt g5 rfl).2, by have := (HOF.out.lt g5 rfl).1; omega⟩
          by_cases hz : 32768 < Z
          · have b1 : decide ((32768 : Int) < Z) = true := decide_eq_true hz
            rw [if_pos hz, if_pos hz, if_pos hz] at HPF
            have HEND : Hid (∀ w7, Fr (fun _ => False) wr w7 → P (.returned (.agg #[.int .i64 0, .slice (some ⟨g, 0, none⟩) L c, .int .i64 2])) (((w7.setCell ⟨w.heap.size, 0, none⟩ (.int .i64 0)).setCell ⟨w.heap.size, 1, none⟩ (.slice (some ⟨g, 0, none⟩) L c)).setCell ⟨w.heap.size, 2, none⟩ (.int .i64 2))) := Lib.hid (fun w7 hf7 => HPF.out _ _ (fr_setF (F := fun q => q = w.heap.size) (b := w.heap.size) (fr_setF (F := fun q => q = w.heap.size) (b := w.heap.size) (fr_setF (F := fun q => q = w.heap.size) (b := w.heap.size) ((HW.out.trans' hf7 (fun _ _ f => f)).mono (fun _ _ f => f.elim)) rfl _ _) rfl _ _) rfl _ _) (made_same HRAT.out (fr_set (fr_set (fr_set (HBX.out w7 hf7).fr (Nat.le_refl _) _ _) (Nat.le_refl _) _ _) (Nat.le_refl _) _ _)))
            clear HPF HRAT HC6 HX HXN HDOC HLN HOF HO HW HS0 HB9 HZF HN HK HLL hz HAD
            go_wp2_with (go_at_call 15; (with_reducible refine HZC.out.mono ?_); rintro r w7 ⟨rfl, hf7⟩; have HF7 := Lib.hid hf7; have hb7 := HBX.out _ hf7; obtain ⟨⟨y0, r0⟩, f0⟩ := hb7.r 0 (by decide); obtain ⟨⟨y1, r1⟩, f1⟩ := hb7.r 1 (by decide); obtain ⟨⟨y2, r2⟩, f2⟩ := hb7.r 2 (by decide); have lw7 := hb7.sz; clear hb7 hf7)
            exact bodyPost_ret (v := .agg #[.int .i64 0, .slice (some ⟨g, 0, none⟩) L c, .int .i64 2]) (by simp [results, Try.results32, go_sem, set3' r0 r1 r2]) rfl (HEND.out _ HF7.out)
          · have b1 : decide ((32768 : Int) < Z) = false := decide_eq_false hz
            rw [if_neg hz, if_neg hz, if_neg hz] at HPF
            have HEND : Hid (∀ w7, Fr (fun _ => False) wr w7 → P (.returned (.agg #[.int .i64 k0, .slice (some ⟨g5, 0, none⟩) L cap, .int .i64 0])) (((w7.setCell ⟨w.heap.size, 0, none⟩ (.int .i64 k0)).setCell ⟨w.heap.size, 1, none⟩ (.slice (some ⟨g5, 0, none⟩) L cap)).setCell ⟨w.heap.size, 2, none⟩ (.int .i64 0))) := Lib.hid (fun w7 hf7 => by
              have HO8 := own_set (own_set (own_set (own_new HOF.out hf7) hlt9 0 (.int .i64 k0)) hlt9 1 (.slice (some ⟨g5, 0, none⟩) L cap)) hlt9 2 (.int .i64 0)
              exact HPF.out _ _ (fr_setF (F := fun q => q = w.heap.size) (b := w.heap.size) (fr_setF (F := fun q => q = w.heap.size) (b := w.heap.size) (fr_setF (F := fun q => q = w.heap.size) (b := w.heap.size) ((HW.out.trans' hf7 (fun _ _ f => f)).mono (fun _ _ f => f.elim)) rfl _ _) rfl _ _) rfl _ _) ⟨some ⟨g5, 0, none⟩, L, cap, rfl, RAt.of_own HO8 HLN.out.symm, fr_set (fr_set (fr_set (HBX.out w7 hf7).fr (Nat.le_refl _) _ _) (Nat.le_refl _) _ _) (Nat.le_refl _) _ _, .inr ⟨g5, rfl, HAD.out.2, (HO8.lt g5 rfl).2⟩⟩)
            clear HPF HRAT HC6 HX HXN HDOC HLN HOF HO HW HS0 HB9 HZF HN HK HLL hz HAD
            go_wp2_with (go_at_call 15; (with_reducible refine HZC.out.mono ?_); rintro r w7 ⟨rfl, hf7⟩; have HF7 := Lib.hid hf7; have hb7 := HBX.out _ hf7; obtain ⟨⟨y0, r0⟩, f0⟩ := hb7.r 0 (by decide); obtain ⟨⟨y1, r1⟩, f1⟩ := hb7.r 1 (by decide); obtain ⟨⟨y2, r2⟩, f2⟩ := hb7.r 2 (by decide); have lw7 := hb7.sz; clear hb7 hf7)
            exact bodyPost_ret (v := .agg #[.int .i64 k0, .slice (some ⟨g5, 0, none⟩) L cap, .int .i64 0]) (by simp [results, Try.results32, go_sem, set3' r0 r1 r2]) rfl (HEND.out _ HF7.out)
theorem rstruct_go {rs : List RT} {F : Nat → List Fld} {sz al : Int → Int} {rk : Int → Nat} (D : Doc rs F sz al rk) (hfew : rs.length ≤ 1000) {w : World} {a : Option Addr} {c : Nat} (h : DocAt w a rs F) (nm : ByteArray) (fa : Option Addr) (fn fc : Nat) (fs : List Fld) (hfs : FldAt w fa fn fs) (hf1 : fs.length ≤ 1000)
    (hk : rfind rs nm < rs.length) (ho : (rs.getD (rfind rs nm) rt0).opn = true) (hm : mayV rs sz fs = 0) (hal : ∀ f ∈ fs, 1 ≤ al f.type) (hend : endF sz al fs fs.length ≤ 1000000000)
    (Z : Int) (HZ : Hid (∀ W av cv fa' fc', DocAt W av (rs.set (rfind rs nm) (laidR nm fa' fs.length fc')) (fun i => if i = rfind rs nm then ownF sz al fs fs.length else F i) → Calls Try.prog 15 #[.slice av rs.length cv, .int .i64 (rfind rs nm : Int)] W fun r w' => r = .returned (.int .i64 Z) ∧ Fr (fun _ => False) W w')) :
    Calls Try.prog 32 #[.slice a rs.length c, .string nm, .slice fa fn fc] w fun r w' => ∃ fa' fc', FldAt w' fa' fs.length (ownF sz al fs fs.length) ∧ (∀ g o, fa' = some ⟨g, o, none⟩ → w.heap.size ≤ g) ∧ MadeP w a rs (if 32768 < Z then 0 else (rfind rs nm : Int)) (if 32768 < Z then 2 else 0) (if 32768 < Z then rs else rs.set (rfind rs nm) (laidR nm fa' fs.length fc')) r w' :=
  rstruct_go' D hfew h nm fa fn fc fs hfs hf1 hk ho hm hal hend Z HZ _ (Lib.hid (fun fa' fc' r w' h1 h2 h3 => ⟨fa', fc', h1, h2, h3⟩))
end Go.Proofs.Ytlhkhgkgjdfcgaa
