/-
  The document's own tables of types (layer 8): put, walked.
-/
import Derived.Test.YtlhkhgkgjdfcgaaQKindBa
import Derived.LoopTactic
import Derived.Deep.AppendLies
import Derived.Deep.QuietTactic
import Derived.BigQuiet
import Derived.Outline
namespace Go.Proofs.Ytlhkhgkgjdfcgaa
open Go.RowKit
set_option linter.unusedVariables false
set_option linter.unusedSimpArgs false
theorem own_new {w w' : World} {base e size n : Nat} {v : Value} {xs : List Value} (h : w.ownsRow base e size v n xs) (hf : Fr (fun _ => False) w w') : w'.ownsRow base e size v n xs := own_kept h hf (fun _ _ => id)
theorem set3d {w : World} {g nq : Nat} {x0 x1 x2 : Value} (b0 : w.cell? ⟨g, 0, none⟩ = some x0) (b1 : w.cell? ⟨g, 1, none⟩ = some x1) (b2 : w.cell? ⟨g, 2, none⟩ = some x2) (v0 v1 v2 : Value) :
    ((((w.drewN nq).setCell ⟨g, 0, none⟩ v0).setCell ⟨g, 1, none⟩ v1).setCell ⟨g, 2, none⟩ v2).cell? ⟨g, 0, none⟩ = some v0 ∧
    ((((w.drewN nq).setCell ⟨g, 0, none⟩ v0).setCell ⟨g, 1, none⟩ v1).setCell ⟨g, 2, none⟩ v2).cell? ⟨g, 1, none⟩ = some v1 ∧
    ((((w.drewN nq).setCell ⟨g, 0, none⟩ v0).setCell ⟨g, 1, none⟩ v1).setCell ⟨g, 2, none⟩ v2).cell? ⟨g, 2, none⟩ = some v2 := set3' (w := w.drewN nq) b0 b1 b2 v0 v1 v2
theorem take_flat (rs : List RT) (k : Nat) (e : RT) (hk : k < rs.length) (he : rs.getD k rt0 = e) : (rs.take (k + 1)).flatMap RT.vals = (rs.take k).flatMap RT.vals ++ e.vals := by
  have e1 : rs[k] = e := by rw [← he, List.getD_eq_getElem?_getD, List.getElem?_eq_getElem hk]; rfl
  rw [List.take_add_one, List.getElem?_eq_getElem hk, List.flatMap_append, e1]
  simp
set_option maxRecDepth 100000 in
set_option maxHeartbeats 2000000 in
theorem put_of {w : World} {a : Option Addr} {n c : Nat} {rs : List RT} (h : RAt w a n rs) (hfew : n ≤ 1000) (x : RT) :
    Calls Try.prog 43 #[.slice a n c, .agg #[.int .i64 x.kind, .int .i64 x.elem, .int .i64 x.len, .string x.name, .slice x.fa x.fn x.fc, .bool x.opn]] w (MadeP w a rs (putN rs x) (putX rs x) (putL rs x)) := by
  obtain ⟨i0, hi0, hz0, hz1, hz2⟩ := info_parts info_rt
  have HC := Lib.hid h.2
  have HN := Lib.hid h.1
  have HY := Lib.hid (fun (k : Nat) (w' : World) => @putP_yes w w' a n c k rs x h)
  have HF := Lib.hid (fun (w' : World) => @putP_full w w' a n c rs x h)
  have HNEW := Lib.hid (fun (w' : World) (cc g base : Nat) => @putP_new w w' a n cc g base rs x h)
  have HST := Lib.hid (PutW.start w x)
  clear h
  go_enter Try.func43, Try.ntmps43
  go_wp2
  go_loopw [5] (fun q wr => ∃ k : Nat, q = .int .i64 k ∧ k ≤ n ∧ Hid ((∀ j, j < k → rsame x (rs.getD j rt0) = false) ∧ PutW w wr x)) (fun q _ => n - (intOf q).toNat)
  case atStart => exact ⟨0, rfl, Nat.zero_le _, Lib.hid ⟨fun j hj => by omega, HST.out⟩⟩
  case round =>
    obtain ⟨k, rfl, hk, HW⟩ := hrel
    obtain ⟨z0, z1, z2, z3, z4, z5⟩ := show _ ∧ _ ∧ _ ∧ _ ∧ _ ∧ _ from ⟨HW.out.2.z0, HW.out.2.z1, HW.out.2.z2, HW.out.2.z3, HW.out.2.z4, HW.out.2.z5⟩
    obtain ⟨⟨u0, r0⟩, f0⟩ := HW.out.2.r 0 (by decide)
    obtain ⟨⟨u1, r1⟩, f1⟩ := HW.out.2.r 1 (by decide)
    obtain ⟨⟨u2, r2⟩, f2⟩ := HW.out.2.r 2 (by decide)
    have hsz := HW.out.2.sz
    by_cases hlt : k < n
    · obtain ⟨g, rfl, hcell⟩ := HC.out k (by have := HN.out; omega)
      obtain ⟨e, he⟩ : ∃ e, rs.getD k rt0 = e := ⟨_, rfl⟩
      rw [he] at hcell
      have HE := Lib.hid he
      have HJ0 : Hid (∀ j, j < 6 → wr.cell? ⟨g, k * 6 + j, none⟩ = e.vals[j]?) := Lib.hid (fun j hj => by
        have h1 : ∃ x, e.vals[j]? = some x := ⟨_, List.getElem?_eq_getElem (by simpa [RT.vals] using hj)⟩
        obtain ⟨x, h1⟩ := h1
        rw [h1]
        exact HW.out.2.fr.cell ((hcell j hj).trans h1) id)
      have q0 : wr.cell? ⟨g, k * 6, none⟩ = some (.int .i64 e.kind) := HJ0.out 0 (by decide)
      have q1 : wr.cell? ⟨g, k * 6 + 1, none⟩ = some (.int .i64 e.elem) := HJ0.out 1 (by decide)
      have q2 : wr.cell? ⟨g, k * 6 + 2, none⟩ = some (.int .i64 e.len) := HJ0.out 2 (by decide)
      have t0 : (0 : Int) ≤ k := by omega
      have t1 : (k : Int) < n := by omega
      have NX : Hid (rsame x (rs.getD k rt0) = false → ∀ j, j < k + 1 → rsame x (rs.getD j rt0) = false) := Lib.hid (fun hh j hj => by
        by_cases hjk : j < k
        · exact HW.out.1 j hjk
        · obtain rfl : j = k := by omega
          exact hh)
      clear hcell he
      by_cases h1 : (e.kind == x.kind) = true
      · by_cases h2 : (e.elem == x.elem) = true
        · by_cases h3 : (e.len == x.len) = true
          · by_cases h4 : (x.kind != 5) = true
            · have HI : Hid (rsame x (rs.getD k rt0) = true) := Lib.hid (by rw [HE.out]; unfold rsame; rw [h1, h2, h3, h4]; rfl)
              go_wp2_with fail
              go_quiet (fail)
              go_wp2
              exact bodyPost_ret (v := .agg #[.int .i64 k, .slice (some ⟨g, 0, none⟩) n c, .int .i64 0]) (by simp [results, Try.results43, go_sem, set3d r0 r1 r2]) rfl (HY.out k _ (by have := HN.out; omega) HI.out HW.out.1 (fr_set (fr_set (fr_set (HW.out.2.fr.drewN _) (by omega) _ _) (by omega) _ _) (by omega) _ _))
            · have h4b : (x.kind != 5) = false := by simpa using h4
              have HI : Hid (rsame x (rs.getD k rt0) = false) := Lib.hid (by rw [HE.out]; unfold rsame; rw [h4b]; simp)
              clear h4
              go_wp2_with fail
              go_quiet (fail)
              go_wp2
              go_roundw
              case rel => exact ⟨k + 1, by go_num, by omega, Lib.hid ⟨NX.out HI.out, HW.out.2.kept ((Fr.refl (fun _ => False) wr).drewN _) (fun _ _ => id)⟩⟩
              case measure => simp [intOf]; omega
          · have h3b : (e.len == x.len) = false := by simpa using h3
            have HI : Hid (rsame x (rs.getD k rt0) = false) := Lib.hid (by rw [HE.out]; unfold rsame; rw [h3b]; simp)
            clear h3
            go_wp2_with fail
            go_quiet (fail)
            go_wp2
            go_roundw
            case rel => exact ⟨k + 1, by go_num, by omega, Lib.hid ⟨NX.out HI.out, HW.out.2.kept ((Fr.refl (fun _ => False) wr).drewN _) (fun _ _ => id)⟩⟩
            case measure => simp [intOf]; omega
        · have h2b : (e.elem == x.elem) = false := by simpa using h2
          have HI : Hid (rsame x (rs.getD k rt0) = false) := Lib.hid (by rw [HE.out]; unfold rsame; rw [h2b]; simp)
          clear h2
          go_wp2_with fail
          go_quiet (fail)
          go_wp2
          go_roundw
          case rel => exact ⟨k + 1, by go_num, by omega, Lib.hid ⟨NX.out HI.out, HW.out.2.kept ((Fr.refl (fun _ => False) wr).drewN _) (fun _ _ => id)⟩⟩
          case measure => simp [intOf]; omega
      · have h1b : (e.kind == x.kind) = false := by simpa using h1
        have HI : Hid (rsame x (rs.getD k rt0) = false) := Lib.hid (by rw [HE.out]; unfold rsame; rw [h1b]; simp)
        clear h1
        go_wp2_with fail
        go_quiet (fail)
        go_wp2
        go_roundw
        case rel => exact ⟨k + 1, by go_num, by omega, Lib.hid ⟨NX.out HI.out, HW.out.2.kept ((Fr.refl (fun _ => False) wr).drewN _) (fun _ _ => id)⟩⟩
        case measure => simp [intOf]; omega
    · obtain rfl : n = k := by omega
      have HALL : Hid (∀ j, j < rs.length → rsame x (rs.getD j rt0) = false) := Lib.hid (by rw [← HN.out]; exact HW.out.1)
      by_cases hfull : 400 ≤ n
      · have hfb : decide ((400 : Int) ≤ n) = true := decide_eq_true (by omega)
        go_wp2
        exact bodyPost_ret (v := .agg #[.int .i64 0, .slice a n c, .int .i64 8]) (by simp [results, Try.results43, go_sem, set3' r0 r1 r2]) rfl (HF.out _ HALL.out hfull (fr_set (fr_set (fr_set HW.out.2.fr (by omega) _ _) (by omega) _ _) (by omega) _ _))
      · have hfb : decide ((400 : Int) ≤ n) = false := decide_eq_false (by omega)
        have hn4 : n < 400 := by omega
        have HWR := Lib.hid HW.out.2
        clear z0 z1 z2 z3 z4 z5 r0 r1 r2 f0 f1 f2 hfull
        go_wp2
        go_loopw [6, 7] (fun v q wl => ∃ k : Nat, q = .int .i64 k ∧ k ≤ n ∧ Hid (PutW w wl x) ∧ Hid (wl.ownsRow (w.heap.size + 2) 46 6 v k ((rs.take k).flatMap RT.vals))) (fun _ q _ => n - (intOf q).toNat)
        case atStart => exact ⟨0, rfl, Nat.zero_le _, HWR, Lib.hid (World.ownsRow_nil _ _ _ _)⟩
        case round =>
          obtain ⟨k, rfl, hk, HW2, HO⟩ := hrel
          have hsz2 := HW2.out.sz
          by_cases hlt : k < n
          · obtain ⟨g, rfl, hcell⟩ := HC.out k (by have := HN.out; omega)
            obtain ⟨e, he⟩ : ∃ e, rs.getD k rt0 = e := ⟨_, rfl⟩
            rw [he] at hcell
            have HE := Lib.hid he
            have HJ0 : Hid (∀ j, j < 6 → wr.cell? ⟨g, k * 6 + j, none⟩ = e.vals[j]?) := Lib.hid (fun j hj => by
              have h1 : ∃ x, e.vals[j]? = some x := ⟨_, List.getElem?_eq_getElem (by simpa [RT.vals] using hj)⟩
              obtain ⟨x, h1⟩ := h1
              rw [h1]
              exact HW2.out.fr.cell ((hcell j hj).trans h1) id)
            have q0 : wr.cell? ⟨g, k * 6, none⟩ = some (.int .i64 e.kind) := HJ0.out 0 (by decide)
            have q1 : wr.cell? ⟨g, k * 6 + 1, none⟩ = some (.int .i64 e.elem) := HJ0.out 1 (by decide)
            have q2 : wr.cell? ⟨g, k * 6 + 2, none⟩ = some (.int .i64 e.len) := HJ0.out 2 (by decide)
            have q3 : wr.cell? ⟨g, k * 6 + 3, none⟩ = some (.string e.name) := HJ0.out 3 (by decide)
            have q4 : wr.cell? ⟨g, k * 6 + 4, none⟩ = some (.slice e.fa e.fn e.fc) := HJ0.out 4 (by decide)
            have q5 : wr.cell? ⟨g, k * 6 + 5, none⟩ = some (.bool e.opn) := HJ0.out 5 (by decide)
            have t0 : (0 : Int) ≤ k := by omega
            have t1 : (k : Int) < n := by omega
            clear hcell he
            go_wp2_with (at_builtin; (refine wpList_append_lies _ (by rfl) _ _ 27 (by rfl) (w.heap.size + 2) 46 i0 _ 6 72 Try.underlying27 hi0 hz0 hz1 hz2 rfl (by decide) u6 k _ (by rfl) (own_new HO.out (fr_al (Fr.refl _ _) _)) ⟨wr.heap.size, 0, none⟩ 1 1 [.int .i64 e.kind, .int .i64 e.elem, .int .i64 e.len, .string e.name, .slice e.fa e.fn e.fc, .bool e.opn] (by rfl) (by rfl) (World.news_of_block (cs := #[.int .i64 e.kind, .int .i64 e.elem, .int .i64 e.len, .string e.name, .slice e.fa e.fn e.fc, .bool e.opn]) (t := 46) (fr := (0, 0)) (heap_alloc_new _ _)) (by simp [Value.oneCell']) (by decide) (by unfold maxLen; omega) (by omega) (by simp; omega) _ rfl ?_; intro gg cap w5 hown5 hgrow5 hat5 hlt5; have HO5 := Lib.hid hown5; have HW5 := Lib.hid (HW2.out.kept ((fr_al (Fr.refl (fun j => u6.ownBlock = some j) wr) (.cells #[.int .i64 e.kind, .int .i64 e.elem, .int .i64 e.len, .string e.name, .slice e.fa e.fn e.fc, .bool e.opn] 46)).trans (Fr.of_by hgrow5)) (fun j hj e => by have := (HO.out.lt j e).1; omega))))
            go_roundw
            case rel => exact ⟨k + 1, by go_num, by omega, HW5, Lib.hid (by rw [take_flat rs k e (by have := HN.out; omega) HE.out]; exact HO5.out)⟩
            case measure => simp [intOf]; omega
          · obtain rfl : n = k := by omega
            have HTK : Hid ((rs.take n).flatMap RT.vals ++ x.vals = (rs ++ [x]).flatMap RT.vals) := Lib.hid (by rw [HN.out, List.take_length, List.flatMap_append]; simp)
            obtain ⟨z0, z1, z2, z3, z4, z5⟩ := show _ ∧ _ ∧ _ ∧ _ ∧ _ ∧ _ from ⟨HW2.out.z0, HW2.out.z1, HW2.out.z2, HW2.out.z3, HW2.out.z4, HW2.out.z5⟩
            go_wp2_with (at_builtin; (refine wpList_append_lies _ (by rfl) _ _ 27 (by rfl) (w.heap.size + 2) 46 i0 _ 6 72 Try.underlying27 hi0 hz0 hz1 hz2 rfl (by decide) u6 n _ (by rfl) (own_new HO.out (fr_al (Fr.refl _ _) _)) ⟨wr.heap.size, 0, none⟩ 1 1 [.int .i64 x.kind, .int .i64 x.elem, .int .i64 x.len, .string x.name, .slice x.fa x.fn x.fc, .bool x.opn] (by rfl) (by rfl) (World.news_of_block (cs := #[.int .i64 x.kind, .int .i64 x.elem, .int .i64 x.len, .string x.name, .slice x.fa x.fn x.fc, .bool x.opn]) (t := 46) (fr := (0, 0)) (heap_alloc_new _ _)) (by simp [Value.oneCell']) (by decide) (by unfold maxLen; omega) (by omega) (by simp; omega) _ rfl ?_; intro gg cap w5 hown5 hgrow5 hat5 hlt5; have HO5 := Lib.hid hown5; have HW5 := Lib.hid (HW2.out.kept ((fr_al (Fr.refl (fun j => u6.ownBlock = some j) wr) (.cells #[.int .i64 x.kind, .int .i64 x.elem, .int .i64 x.len, .string x.name, .slice x.fa x.fn x.fc, .bool x.opn] 46)).trans (Fr.of_by hgrow5)) (fun j hj e => by have := (HO.out.lt j e).1; omega)); obtain ⟨⟨y0, r0⟩, f0⟩ := HW5.out.r 0 (by decide); obtain ⟨⟨y1, r1⟩, f1⟩ := HW5.out.r 1 (by decide); obtain ⟨⟨y2, r2⟩, f2⟩ := HW5.out.r 2 (by decide); have hsz5 := HW5.out.sz))
            exact bodyPost_ret (v := .agg #[.int .i64 n, .slice (some ⟨gg, 0, none⟩) (n + 1) cap, .int .i64 0]) (by simp [results, Try.results43, go_sem, set3' r0 r1 r2]) rfl (HNEW.out _ cap gg (w.heap.size + 2) HALL.out hn4 (fr_set (fr_set (fr_set HW5.out.fr (by omega) _ _) (by omega) _ _) (by omega) _ _) (by omega)
              (by rw [← HTK.out]; exact own_set (own_set (own_set HO5.out (by omega) _ _) (by omega) _ _) (by omega) _ _))
end Go.Proofs.Ytlhkhgkgjdfcgaa
